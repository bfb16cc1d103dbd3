package tests

import (
	"fmt"
	"slices"
	"strings"
	"testing"

	"loop.example/muniment/impl"
)

// tends are the two ways to tend a store.
func tends() map[string]func(impl.Store) (impl.Store, int) {
	return map[string]func(impl.Store) (impl.Store, int){"flush": impl.StoreFlush, "pack": impl.StorePack}
}

func TestPromise25(t *testing.T) {
	for name, w := range someTwins(t) {
		before := copyStore(w.s)
		s, code := impl.StoreFlush(w.s)
		if !sameStore(w.s, before) {
			t.Fatalf("%s: the store that was given is changed", name)
		}
		if len(w.s.Tables) == impl.TableCount && len(w.s.Fresh) > 0 {
			if code != impl.StoreFull || !sameStore(s, before) {
				t.Errorf("%s: code %d", name, code)
			}
			continue
		}
		if code != impl.StoreDone || len(s.Fresh) != 0 || !impl.StoreOk(s) {
			t.Fatalf("%s: code %d, %v", name, code, s.Fresh)
		}
		for seq := w.s.Floor; seq <= w.s.Seq; seq++ {
			if got, want := impl.StoreScan(s, "", seq), impl.StoreScan(w.s, "", seq); !sameEntries(got, want) {
				t.Errorf("%s: at %d: %v, not %v", name, seq, got, want)
			}
		}
		want := copyStore(w.s)
		want.Disk, want.Head, want.Log, want.Turn, want.Blocks, want.Nums = s.Disk, want.Head+1, 1-want.Log, want.Turn+1, 0, 0
		if len(w.s.Fresh) > 0 {
			text := plainTable(w.s.Fresh)
			want.Tables = append([]impl.Extent{{At: firstRow(impl.StoreFree(w.s), len(plainPieces(1, text))), Size: len(plainPieces(1, text)), Turn: want.Turn}}, want.Tables...)
		}
		want.Fresh = nil
		if !sameStore(s, want) {
			t.Errorf("%s: %v, not %v", name, s, want)
		}
		w.copied().flush().check(name)
	}
}

// firstRow is the first of so many blocks in a row.
func firstRow(free []int, size int) int {
	for _, at := range free {
		row := 0
		for slices.Contains(free, at+row) {
			row++
		}
		if row >= size {
			return at
		}
	}
	return -1
}

func TestPromise26(t *testing.T) {
	for name, w := range someTwins(t) {
		before := copyStore(w.s)
		s, code := impl.StorePack(w.s)
		if !sameStore(w.s, before) {
			t.Fatalf("%s: the store that was given is changed", name)
		}
		if code != impl.StoreDone || len(s.Fresh) != 0 || s.Floor != w.s.Seq || s.Seq != w.s.Seq || !impl.StoreOk(s) {
			t.Fatalf("%s: code %d, %v", name, code, s)
		}
		scan := impl.StoreScan(w.s, "", w.s.Seq)
		if got := impl.StoreScan(s, "", s.Seq); !sameEntries(got, scan) {
			t.Errorf("%s: %v, not %v", name, got, scan)
		}
		want := impl.Store{Disk: s.Disk, Head: w.s.Head + 1, Log: 1 - w.s.Log, Turn: w.s.Turn + 1, Seq: w.s.Seq, Floor: w.s.Seq}
		if len(scan) > 0 {
			size := len(plainPieces(1, plainTable(scan)))
			want.Tables = []impl.Extent{{At: firstRow(impl.StoreFree(w.s), size), Size: size, Turn: want.Turn}}
		}
		if !sameStore(s, want) {
			t.Errorf("%s: %v, not %v", name, s, want)
		}
		for seq := range w.s.Seq {
			if len(impl.StoreScan(s, "", seq)) != 0 {
				t.Errorf("%s: %d can be looked at", name, seq)
			}
		}
		w.copied().pack().check(name)
		w.copied().pack().pack().batch(put("k", "new")).check(name + ", and more")
	}
}

// rowStore is a store whose free blocks are rows of 1, 2, 3 and 11, and where these begin.
func rowStore(t *testing.T) (impl.Store, []int) {
	var list []impl.Entry
	for len(plainPieces(1, plainTable(list))) < 42 {
		list = append(list, impl.Entry{Key: fmt.Sprint("a", 100+len(list)), Seq: 1, Value: strings.Repeat("p", 80)})
	}
	d := headed(impl.DiskNew(), 4, "0 3 9 0 39,42,3 83,42,1 128,1,2")
	d = laid(laid(d, 39, plainPieces(3, plainTable(list))...), 83, plainPieces(1, plainTable(list))...)
	d = laid(d, 128, plainPieces(2, "table 0 0000000000000000\n")...)
	return opened(t, d), []int{38, 81, 125, 129}
}

// opsOfBlocks are ops of which a table has just so many blocks.
func opsOfBlocks(size int) []impl.Op {
	var ops []impl.Op
	var list []impl.Entry
	for len(ops) == 0 || len(plainPieces(1, plainTable(list))) < size {
		key, value := fmt.Sprint("b", 100+len(ops)), strings.Repeat("b", 70)
		ops, list = append(ops, put(key, value)), append(list, impl.Entry{Key: key, Seq: 10, Value: value})
	}
	return ops
}

// A table begins in the first row of free blocks that is long enough, not in the longest one, and not in a shorter one ahead of it.
func TestStoreRows(t *testing.T) {
	s, rows := rowStore(t)
	if free := impl.StoreFree(s); fmt.Sprint(free) != "[38 81 82 125 126 127 129 130 131 132 133 134 135 136 137 138 139]" {
		t.Fatalf("free: %v", free)
	}
	for size, at := range map[int]int{1: rows[0], 2: rows[1], 3: rows[2], 4: rows[3], 10: rows[3], 11: rows[3], 12: -1} {
		fresh, code := impl.StoreBatch(s, opsOfBlocks(size))
		if code != impl.StoreDone {
			t.Fatalf("%d blocks: code %d of the batch", size, code)
		}
		after, code := impl.StoreFlush(fresh)
		if at < 0 && (code != impl.StoreFull || !sameStore(after, fresh)) || at >= 0 && (code != impl.StoreDone || after.Tables[0] != impl.Extent{At: at, Size: size, Turn: 4} || !impl.StoreOk(after)) {
			t.Errorf("%d blocks: code %d, %v", size, code, after.Tables)
		}
	}
}

// More entries than a list of entries may have can be looked at, but are no table.
func TestStoreManyEntries(t *testing.T) {
	w := newTwin(t)
	for table := range 5 {
		for i := range 3 {
			w.batch(puts(20, fmt.Sprintf("k%d%d", table, i), "v")...)
		}
		if table < 4 {
			w.flush()
		}
	}
	if len(w.all) != 300 || len(w.s.Tables) != 4 || len(w.s.Fresh) != 60 {
		t.Fatal(len(w.all), w.s.Tables)
	}
	w.check("300 entries")
	for _, e := range w.all {
		if value, ok := impl.StoreGet(w.s, e.Key, w.s.Seq); value != "v" || !ok {
			t.Errorf("%s: %q and %v", e.Key, value, ok)
		}
	}
	for what, do := range tends() {
		if s, code := do(w.s); code != impl.StoreFull || !sameStore(s, w.s) {
			t.Errorf("%s of 300: code %d", what, code)
		}
	}
}

// Many entries of which few are left can be packed; as many as a table has can, and one more cannot.
func TestStorePackRoom(t *testing.T) {
	w := newTwin(t)
	for table := range 5 {
		for i := range 3 {
			w.batch(puts(20, fmt.Sprint("k", i), fmt.Sprint(table))...)
		}
		if table < 4 {
			w.flush()
		}
	}
	w.pack().check("60 of 300 entries")
	if got := impl.StoreScan(w.s, "", w.s.Seq); len(got) != 60 || got[0].Value != "4" {
		t.Error(got)
	}
	for _, n := range []int{240, 241} {
		one, two := plainPieces(1, plainTable(manyKeys("a", 120))), plainPieces(1, plainTable(manyKeys("b", n-120)))
		d := headed(impl.DiskNew(), 3, fmt.Sprintf("0 1 9 0 38,%d,1 80,%d,1", len(one), len(two)))
		s := opened(t, laid(laid(d, 38, one...), 80, two...))
		after, code := impl.StorePack(s)
		if n == 240 && (code != impl.StoreDone || !impl.StoreOk(after) || len(impl.StoreScan(after, "", 9)) != 240) || n > 240 && (code != impl.StoreFull || !sameStore(after, s)) {
			t.Errorf("%d entries: code %d", n, code)
		}
	}
}

// manyKeys are so many entries, each of another key.
func manyKeys(begin string, n int) []impl.Entry {
	var list []impl.Entry
	for i := range n {
		list = append(list, impl.Entry{Key: fmt.Sprint(begin, 100+i), Seq: 1, Value: "v"})
	}
	return list
}

// A pack of 7000 bytes, and of one more: most lie in a table, the others in the log.
func TestStorePackSize(t *testing.T) {
	for _, size := range []int{6999, 7000, 7001} {
		list := sizedEntries(size)
		var ops []impl.Op
		for _, e := range list[55:] {
			ops = append(ops, put(e.Key, e.Value))
		}
		table := plainPieces(1, plainTable(list[:55]))
		d := laid(headed(impl.DiskNew(), 1, fmt.Sprintf("0 1 1 0 38,%d,1", len(table))), 38, table...)
		d = laid(d, 2, append(plainFrame(1, 0, plainRecord(2, ops[:13]...)), plainFrame(1, 1, plainRecord(3, ops[13:]...))...)...)
		s := opened(t, d)
		if all := impl.StoreScan(s, "", 3); len(plainTable(all)) != size {
			t.Fatalf("%d bytes, not %d", len(plainTable(all)), size)
		}
		after, code := impl.StorePack(s)
		if size <= 7000 && (code != impl.StoreDone || after.Tables[0].Size != 53 || !impl.StoreOk(after)) || size > 7000 && (code != impl.StoreFull || !sameStore(after, s)) {
			t.Errorf("%d bytes: code %d", size, code)
		}
	}
}

// A pack needs blocks beside those of the tables that it is made of.
func TestStorePackBlocks(t *testing.T) {
	table := plainPieces(1, plainTable(sizedEntries(7000)))
	s := opened(t, laid(headed(impl.DiskNew(), 1, "0 1 1 0 60,53,1"), 60, table...))
	if after, code := impl.StorePack(s); code != impl.StoreFull || !sameStore(after, s) {
		t.Errorf("code %d where there is no room", code)
	}
	for round := range 2 {
		var ops []impl.Op
		for i := range 24 {
			ops = append(ops, drop(fmt.Sprint("k", 100+24*round+i)))
		}
		s, _ = impl.StoreBatch(s, ops)
	}
	after, code := impl.StorePack(s)
	if code != impl.StoreDone || after.Tables[0].At != 38 || !impl.StoreOk(after) || len(impl.StoreScan(after, "", 3)) != 32 {
		t.Errorf("code %d: %v", code, after.Tables)
	}
}

// The last turn, and the last head.
func TestStoreLastTurn(t *testing.T) {
	for _, fresh := range []bool{false, true} {
		for _, c := range []struct {
			head, turn int
			full       bool
		}{{1, impl.SeqMax, true}, {1, impl.SeqMax - 1, false}, {impl.SeqMax, 0, true}, {impl.SeqMax - 1, 0, false}, {impl.SeqMax, impl.SeqMax, true}, {impl.SeqMax - 1, impl.SeqMax - 1, false}} {
			s := opened(t, headed(impl.DiskNew(), c.head, fmt.Sprint("0 ", c.turn, " 0 0")))
			if fresh {
				s, _ = impl.StoreBatch(s, []impl.Op{put("k", "v")})
			}
			if !impl.StoreOk(s) || fresh != (s.Seq == 1) {
				t.Fatalf("head %d, turn %d: no batch", c.head, c.turn)
			}
			for what, do := range tends() {
				after, code := do(s)
				if c.full && (code != impl.StoreFull || !sameStore(after, s)) || !c.full && (code != impl.StoreDone || after.Head != c.head+1 || after.Turn != c.turn+1 || !impl.StoreOk(after)) {
					t.Errorf("head %d, turn %d, fresh %v: code %d of a %s", c.head, c.turn, fresh, code, what)
				}
			}
		}
	}
}

// Four tables may be there; with nothing fresh a flush goes on, and a pack always does.
func TestStoreTableCount(t *testing.T) {
	w := newTwin(t)
	for i := range 4 {
		w.batch(put(fmt.Sprint("k", i), "v")).flush()
	}
	w.flush().check("four tables, and nothing fresh")
	if len(w.s.Tables) != 4 || w.s.Turn != 5 {
		t.Fatal(w.s.Tables)
	}
	w.batch(put("k", "v"))
	if s, code := impl.StoreFlush(w.s); code != impl.StoreFull || !sameStore(s, w.s) {
		t.Errorf("code %d of a fifth table", code)
	}
	w.check("no fifth table")
	w.pack().batch(put("l", "v")).flush().check("packed")
	if len(w.s.Tables) != 2 {
		t.Error(w.s.Tables)
	}
}

// What the blocks have behind some steps, byte by byte.
func TestStoreBlocks(t *testing.T) {
	wide := puts(18, "k", strings.Repeat("w", 77))
	w := newTwin(t).batch(wide...).batch(drop("k100"), put("k1", "")).flush().batch(put("k117", "n")).flush().batch(drop("k1")).pack()
	var old []impl.Entry
	for _, op := range wide {
		old = plainPut(old, impl.Entry{Key: op.Key, Seq: 1, Value: op.Value})
	}
	first := plainPut(plainPut(old, impl.Entry{Key: "k100", Seq: 2, Dead: true}), impl.Entry{Key: "k1", Seq: 2})
	table := plainPieces(1, plainTable(first))
	last := []impl.Entry{{Key: "k117", Seq: 3, Value: "n"}}
	packed := append(append([]impl.Entry(nil), old[1:17]...), last...)
	size := len(table)
	d := headed(headed(impl.DiskNew(), 3, fmt.Sprintf("0 2 3 0 %d,1,2 38,%d,1", 38+size, size)), 4, fmt.Sprintf("1 3 4 4 %d,%d,3", 39+size, len(plainPieces(3, plainTable(packed)))))
	d = laid(d, 2, append(plainFrame(0, 0, plainRecord(1, wide...)), plainFrame(0, 1, plainRecord(2, drop("k100"), put("k1", "")))...)...)
	d = laid(d, 20, plainFrame(1, 0, plainRecord(3, put("k117", "n")))...)
	d = laid(d, 2, plainFrame(2, 0, plainRecord(4, drop("k1")))...)
	d = laid(d, 38, append(append(table, plainPieces(2, plainTable(last))...), plainPieces(3, plainTable(packed))...)...)
	if len(plainFrame(0, 0, plainRecord(1, wide...))) < 2 {
		t.Fatal("short")
	}
	for at := range d.Blocks {
		if w.s.Disk.Blocks[at] != d.Blocks[at] {
			t.Errorf("block %d: %q, not %q", at, w.s.Disk.Blocks[at], d.Blocks[at])
		}
	}
}
