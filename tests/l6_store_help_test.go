package tests

import (
	"crypto/sha256"
	"fmt"
	"slices"
	"strings"
	"testing"

	"loop.example/muniment/impl"
)

// put is an op that gives a key a value.
func put(key, value string) impl.Op {
	return impl.Op{Key: key, Value: value}
}

// drop is an op that leaves a key with nothing.
func drop(key string) impl.Op {
	return impl.Op{Key: key, Dead: true}
}

// puts are so many ops of keys that begin alike.
func puts(n int, begin, value string) []impl.Op {
	var ops []impl.Op
	for i := range n {
		ops = append(ops, put(fmt.Sprint(begin, 100+i), value))
	}
	return ops
}

// sameStore says whether two stores are the same; no list is an empty one.
func sameStore(a, b impl.Store) bool {
	nums := func(s impl.Store) [7]int {
		return [7]int{s.Head, s.Log, s.Turn, s.Blocks, s.Nums, s.Seq, s.Floor}
	}
	return sameDisk(a.Disk, b.Disk) && nums(a) == nums(b) && slices.Equal(a.Tables, b.Tables) && slices.Equal(a.Fresh, b.Fresh)
}

// copyStore is a store that shares nothing with another one.
func copyStore(s impl.Store) impl.Store {
	s.Disk = copyDisk(s.Disk)
	s.Tables = slices.Clone(s.Tables)
	s.Fresh = slices.Clone(s.Fresh)
	return s
}

// noStore says whether a store is nothing.
func noStore(s impl.Store) bool {
	return sameStore(s, impl.Store{})
}

// plainScan is what all keys that begin so have at a moment.
func plainScan(all []impl.Entry, prefix string, seq int) []impl.Entry {
	var seen []impl.Entry
	for place, e := range all {
		if place > 0 && all[place-1].Key == e.Key || !strings.HasPrefix(e.Key, prefix) {
			continue
		}
		if newest, found := plainAt(all, e.Key, seq); found && !newest.Dead {
			seen = append(seen, newest)
		}
	}
	return seen
}

// twin is a store, and all entries that it should have, kept in one plain list.
type twin struct {
	t   *testing.T
	s   impl.Store
	all []impl.Entry
}

// newTwin is a twin of a new store.
func newTwin(t *testing.T) *twin {
	return &twin{t: t, s: impl.StoreNew()}
}

// copied is a twin that goes on by itself.
func (w *twin) copied() *twin {
	return &twin{t: w.t, s: copyStore(w.s), all: slices.Clone(w.all)}
}

// note puts ops of the next moment into the plain list.
func (w *twin) note(ops []impl.Op) {
	for _, op := range ops {
		w.all = plainPut(w.all, impl.Entry{Key: op.Key, Seq: w.s.Seq + 1, Dead: op.Dead, Value: op.Value})
	}
}

// batch does ops, which must be done.
func (w *twin) batch(ops ...impl.Op) *twin {
	w.t.Helper()
	w.note(ops)
	s, code := impl.StoreBatch(w.s, ops)
	if code != impl.StoreDone {
		w.t.Fatalf("code %d of a batch of %d", code, len(ops))
	}
	w.s = s
	return w
}

// flush makes a table, which must be done.
func (w *twin) flush() *twin {
	w.t.Helper()
	s, code := impl.StoreFlush(w.s)
	if code != impl.StoreDone {
		w.t.Fatalf("code %d of a flush", code)
	}
	w.s = s
	return w
}

// pack makes one table of all, which must be done.
func (w *twin) pack() *twin {
	w.t.Helper()
	s, code := impl.StorePack(w.s)
	if code != impl.StoreDone {
		w.t.Fatalf("code %d of a pack", code)
	}
	w.s, w.all = s, plainTrim(w.all, s.Seq, true)
	return w
}

// check holds what the store tells against the plain list, at each moment.
func (w *twin) check(what string) {
	w.t.Helper()
	if !impl.StoreOk(w.s) {
		w.t.Fatalf("%s: the store is not ok", what)
	}
	for _, seq := range []int{w.s.Floor, w.s.Floor + 1, w.s.Seq - 1, w.s.Seq, w.s.Seq + 1, impl.SeqMax} {
		if seq < w.s.Floor {
			continue
		}
		for _, prefix := range []string{"", "k", "k10", "z"} {
			if got, want := impl.StoreScan(w.s, prefix, seq), plainScan(w.all, prefix, seq); !sameEntries(got, want) {
				w.t.Fatalf("%s: %q at %d: %v, not %v", what, prefix, seq, got, want)
			}
		}
	}
}

// someTwins are stores of all sorts, by what is special of them.
func someTwins(t *testing.T) map[string]*twin {
	twins := map[string]*twin{"new": newTwin(t)}
	twins["fresh"] = newTwin(t).batch(put("k", "v"), put("l", ""), put("k.a", "x y")).batch(drop("k"), drop("none")).batch(put("k", "again"))
	twins["one table"] = twins["fresh"].copied().flush()
	twins["a table and fresh"] = twins["one table"].copied().batch(put("k.a", "new"), drop("l")).batch(put("z", strings.Repeat("z", 80)))
	twins["two tables"] = twins["a table and fresh"].copied().flush()
	twins["nothing fresh is flushed"] = twins["one table"].copied().flush()
	four := twins["two tables"].copied().batch(put("k", "3"), put("l", "3")).flush().batch(drop("k"), put("m", "4")).flush()
	twins["four tables"] = four
	twins["four tables and fresh"] = four.copied().batch(put("k", "5")).batch(drop("k.a"), put("k.b", "~"))
	twins["packed"] = twins["four tables and fresh"].copied().pack()
	twins["packed again, and fresh"] = twins["packed"].copied().pack().batch(put("k", "6"), drop("l"), drop("m"))
	twins["all gone"] = newTwin(t).batch(put("k", "v")).flush().batch(drop("k")).pack()
	twins["a new one packed"] = newTwin(t).pack()
	wide := newTwin(t)
	for i := range 3 {
		wide.batch(puts(20, fmt.Sprint("k", i), strings.Repeat("w", 9*i))...)
	}
	twins["as much fresh as may be"] = wide
	twins["a table of two pieces"] = wide.copied().flush().batch(put("k0100", "new"), drop("k1101"))
	long := newTwin(t)
	for i := range 18 {
		long.batch(put("k", fmt.Sprint(i)))
	}
	twins["a full log"] = long
	twins["a record of many blocks"] = newTwin(t).batch(puts(15, "k", strings.Repeat("m", 80))...).batch(put("k101", "n"))
	return twins
}

// plainFrame is a text cut into blocks, made with the sum of the standard library.
func plainFrame(turn, num int, text string) []string {
	var blocks []string
	parts := max(1, (len(text)+139)/140)
	for part := range parts {
		head := fmt.Sprintf("%d %d %d %d:", turn, num, part, parts)
		piece := text[140*part : min(140*part+140, len(text))]
		blocks = append(blocks, fmt.Sprintf("%x", sha256.Sum256([]byte(head+text)))[:16]+head+piece)
	}
	return blocks
}

// plainWords are words as bytes.
func plainWords(words ...string) string {
	text := ""
	for _, word := range words {
		text += fmt.Sprintf("%d:%s,", len(word), word)
	}
	return text
}

// plainRecord is the text of a record.
func plainRecord(seq int, ops ...impl.Op) string {
	words := []string{fmt.Sprint(seq)}
	for _, op := range ops {
		if op.Dead {
			words = append(words, op.Key, "-")
		} else {
			words = append(words, op.Key, "="+op.Value)
		}
	}
	return plainWords(words...)
}

// plainPieces are the blocks of a table's text.
func plainPieces(turn int, text string) []string {
	var blocks []string
	for num := 0; text != ""; num++ {
		size := min(2000, len(text))
		blocks = append(blocks, plainFrame(turn, num, text[:size])...)
		text = text[size:]
	}
	return blocks
}

// laid is a disk with blocks from a place on, one behind the other.
func laid(d impl.Disk, at int, blocks ...string) impl.Disk {
	d = copyDisk(d)
	copy(d.Blocks[at:], blocks)
	return d
}

// headed is a disk with a head of a number.
func headed(d impl.Disk, num int, text string) impl.Disk {
	return laid(d, num%2, plainFrame(0, num, text)...)
}

// opened is the store of a disk that was made by hand.
func opened(t *testing.T, d impl.Disk) impl.Store {
	t.Helper()
	s, ok := impl.StoreOpen(d)
	if !ok || !sameDisk(s.Disk, d) || !impl.StoreOk(s) {
		t.Fatalf("not opened: %v", s)
	}
	return s
}
