package tests

import (
	"testing"

	"loop.example/muniment/impl"
)

// The example that README.md shows.
func TestReadme(t *testing.T) {
	d := impl.DiskNew()
	for at, block := range impl.FramePut(1, 0, impl.WirePut([]string{"some", "words"})) {
		d = impl.DiskWrite(d, 2+at, block)
	}
	d = impl.DiskCrash(impl.DiskFlush(d), 0)
	text, count := impl.FrameGet(1, 0, d.Blocks[2:])
	words, ok := impl.WireGet(text)
	if count != 1 || !ok || !sameTexts(words, []string{"some", "words"}) {
		t.Error(count, words, ok)
	}
	list, ok := impl.MemPut(nil, impl.Entry{Key: "s.all", Seq: 3, Value: "here"})
	table := impl.TableMake(list)
	value, found, dead := impl.TableGet(table, "s.all", 9)
	if !ok || value != "here" || !found || dead {
		t.Error(table, value, found, dead)
	}
	s, code := impl.StoreBatch(impl.StoreNew(), []impl.Op{{Key: "a", Value: "one"}, {Key: "b", Value: "two"}})
	if code != impl.StoreDone {
		t.Error(code)
	}
	s, code = impl.StoreBatch(s, []impl.Op{{Key: "a", Dead: true}})
	if code != impl.StoreDone {
		t.Error(code)
	}
	s, code = impl.StoreFlush(s)
	value, found = impl.StoreGet(s, "a", 1)
	if code != impl.StoreDone || value != "one" || !found {
		t.Error(code, value, found)
	}
	down, code := impl.StoreBatch(impl.StoreFall(s, 1), []impl.Op{{Key: "b", Dead: true}})
	again, ok := impl.StoreOpen(impl.DiskCrash(down.Disk, 0))
	if code != impl.StoreDown || !ok || !sameStore(again, s) {
		t.Error(code, again)
	}
}
