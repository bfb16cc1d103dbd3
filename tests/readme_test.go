package tests

import (
	"fmt"
	"testing"

	"loop.example/muniment/impl"
)

// The example that README.md shows.
func TestReadme(t *testing.T) {
	d := impl.DiskNew()
	for at, block := range impl.FramePut(1, 0, impl.WirePut([]string{"some", "words"})) {
		d = impl.DiskWrite(d, 2+at, block)
	}
	d = impl.DiskCrash(impl.DiskFlush(d), 0)
	text, count := impl.FrameGet(1, 0, d.Blocks[2:])
	words, ok := impl.WireGet(text)
	if count != 1 || !ok || !sameTexts(words, []string{"some", "words"}) {
		t.Error(count, words, ok)
	}
	list, ok := impl.MemPut(nil, impl.Entry{Key: "s.all", Seq: 3, Value: "here"})
	table := impl.TableMake(list)
	value, found, dead := impl.TableGet(table, "s.all", 9)
	if !ok || value != "here" || !found || dead {
		t.Error(table, value, found, dead)
	}
	s, code := impl.StoreBatch(impl.StoreNew(), []impl.Op{{Key: "a", Value: "one"}, {Key: "b", Value: "two"}})
	if code != impl.StoreDone {
		t.Error(code)
	}
	s, code = impl.StoreBatch(s, []impl.Op{{Key: "a", Dead: true}})
	if code != impl.StoreDone {
		t.Error(code)
	}
	s, code = impl.StoreFlush(s)
	value, found = impl.StoreGet(s, "a", 1)
	if code != impl.StoreDone || value != "one" || !found {
		t.Error(code, value, found)
	}
	down, code := impl.StoreBatch(impl.StoreFall(s, 1), []impl.Op{{Key: "b", Dead: true}})
	again, ok := impl.StoreOpen(impl.DiskCrash(down.Disk, 0))
	if code != impl.StoreDown || !ok || !sameStore(again, s) {
		t.Error(code, again)
	}
	m, answer := impl.ModelNew(), ""
	for place, line := range []string{"space a all 30", "put a x first", "mark a x k", "drop a x"} {
		r, ok := impl.ReqRead(line)
		m, answer = impl.ModelDo(m, r)
		if !ok || answer != fmt.Sprint("ok ", place+1) {
			t.Error(line, answer)
		}
	}
	board := impl.ModelBoard(m)
	pasts, ok := impl.ModelWatch(m, "a", 2)
	if board != "count 4\na in all 30 here 1 uses 6\n  x 1 4 going k first\nall in - -1 here 0 uses 6\n" || !ok || len(pasts) != 2 {
		t.Error(board, pasts)
	}
	ops := impl.ModelDiff(impl.ModelNew(), m)
	x, ok := impl.ModelLoad(impl.ModelPairs(m))
	if len(ops) != 9 || !ok || !sameModel(x, m) {
		t.Error(ops, x)
	}
}

// What README.md shows of servers.
func TestReadmeServers(t *testing.T) {
	server, answer := impl.ServerDo(impl.ServerNew(), "space a all 30")
	if answer != "ok 1" {
		t.Error(answer)
	}
	server, answer = impl.ServerDo(server, "put a x first")
	if answer != "ok 2" {
		t.Error(answer)
	}
	server, code := impl.ServerTend(server, false)
	if code != impl.StoreDone {
		t.Error(code)
	}
	server, ok := impl.ServerOpen(impl.ServerCut(server, "drop a x", 1, 0))
	if _, answer := impl.ServerDo(server, "list a"); !ok || answer != "list x uses 6" {
		t.Error(answer)
	}
	server, answers := impl.ServerPlay([]impl.Event{
		{Kind: impl.PlayAsk, Text: "space a all 30"},
		{Kind: impl.PlayFlush},
		{Kind: impl.PlayCrash, Text: "put a x first", Left: 1, Mask: 1},
		{Kind: impl.PlayAsk, Text: "list a"},
	})
	// The request is one block of the log, and that stayed.
	if !sameTexts(answers, []string{"ok 1", "list x uses 6"}) || !impl.ServerOk(server) {
		t.Error(answers)
	}
	told := impl.ServerSession([]string{"space a all 30", "flush", "crash 1 1 put a x first", "list a"})
	if told != "ok 1\nlist x uses 6\n"+impl.ModelBoard(server.Model) {
		t.Error(told)
	}
	if told := impl.ServerSession([]string{"crash 1 0", "crash 1 0 "}); told != "no bad\ncount 0\nall in - -1 here 0 uses 0\n" {
		t.Error(told)
	}
}
