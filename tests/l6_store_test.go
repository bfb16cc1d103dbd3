package tests

import (
	"fmt"
	"math"
	"strings"
	"testing"

	"loop.example/muniment/impl"
)

func TestPromise31(t *testing.T) {
	s := impl.StoreNew()
	want := impl.Store{Disk: headed(impl.DiskNew(), 1, "0 0 0 0"), Head: 1}
	if !sameStore(s, want) || !impl.StoreOk(s) || s.Disk.Left != impl.DiskForever {
		t.Fatalf("%v", s)
	}
	if got := impl.StoreScan(s, "", 0); len(got) != 0 {
		t.Errorf("it has %v", got)
	}
	if free := impl.StoreFree(s); len(free) != 102 || free[0] != 38 || free[101] != 139 {
		t.Errorf("free: %v", free)
	}
	newTwin(t).check("new")
	if got, ok := impl.StoreOpen(s.Disk); !ok || !sameStore(got, s) {
		t.Errorf("opened: %v", got)
	}
	w := newTwin(t).batch(put("k", "v"))
	w.check("behind a batch")
	if got, ok := impl.StoreOpen(w.s.Disk); !ok || !sameStore(got, w.s) {
		t.Errorf("opened behind a batch: %v", got)
	}
	s.Disk.Blocks[1] = "mine"
	if !impl.StoreOk(impl.StoreNew()) {
		t.Error("two new stores share blocks")
	}
}

// batches are ops that can be done in any store that has room for them.
func batches() map[string][]impl.Op {
	long := strings.Repeat("k", 24)
	return map[string][]impl.Op{
		"a new key":               {put("new", "v")},
		"another value":           {put("k", "other")},
		"no value":                {put("k", "")},
		"a value like a mark":     {put("k", "-"), put("l", "=")},
		"a value with words":      {put("k", "1:x,"), put("l", "2:=v,1:-,")},
		"nothing":                 {drop("k")},
		"nothing of no key":       {drop("nobody")},
		"keys that descend":       {put("z", "1"), drop("m"), put("l", "2"), put("k.a", "3"), put("k", "4")},
		"keys with odd bytes":     {put(".", " "), put("~", "~"), put("/09;@A=|", "")},
		"a long key and value":    {put(long, strings.Repeat("v", 80)), drop(long[:23])},
		"as many as may be":       puts(24, "k", "v"),
		"just one less":           puts(23, "k", "v"),
		"about as long as may be": opsOfSize(1999),
		"all that is there":       {drop("k"), drop("l"), drop("k.a"), drop("k.b"), drop("m"), drop("z")},
		"keys that begin alike":   {drop("k"), put("k.", "1"), put("k.a", "2"), put("k.a.", "3"), drop("k.b")},
	}
}

// opsOfSize are ops whose record at a moment of one figure has just so many bytes, about 2000.
func opsOfSize(size int) []impl.Op {
	ops := puts(22, "k", strings.Repeat("m", 80))
	for len(plainRecord(1, ops...)) > size {
		ops[0].Value = ops[0].Value[1:]
	}
	return ops
}

func TestPromise23(t *testing.T) {
	for name, w := range someTwins(t) {
		for what, ops := range batches() {
			what = name + ", " + what
			before, old := copyStore(w.s), impl.StoreScan(w.s, "", w.s.Seq)
			s, code := impl.StoreBatch(w.s, ops)
			if !sameStore(w.s, before) {
				t.Fatalf("%s: the store that was given is changed", what)
			}
			if code == impl.StoreLog {
				if !sameStore(s, before) {
					t.Errorf("%s: something is changed", what)
				}
				continue
			}
			if code != impl.StoreDone || s.Seq != w.s.Seq+1 || s.Nums != w.s.Nums+1 || len(s.Fresh) != len(w.s.Fresh)+len(ops) {
				t.Fatalf("%s: code %d, %v", what, code, s)
			}
			for _, op := range ops {
				if value, ok := impl.StoreGet(s, op.Key, s.Seq); value != op.Value || ok == op.Dead {
					t.Errorf("%s: %s is %q and %v", what, op.Key, value, ok)
				}
			}
			if got := impl.StoreScan(s, "", w.s.Seq); !sameEntries(got, old) {
				t.Errorf("%s: the moment ahead is %v, not %v", what, got, old)
			}
			after := w.copied().batch(ops...)
			after.check(what)
			if !sameStore(after.s, s) {
				t.Errorf("%s: done again it is another store", what)
			}
		}
	}
}

// badOps are ops that are not ok, each for one reason.
func badOps() map[string][]impl.Op {
	lists := map[string][]impl.Op{
		"none":          nil,
		"an empty list": {},
		"one too many":  puts(25, "k", ""),
		"many too many": puts(5000, "k", ""),
		"a key twice":   {put("a", "1"), put("a", "2")},
		"a key twice, once dead": {
			put("a", "1"), put("b", ""), drop("a"),
		},
		"a key twice, far apart": append(puts(23, "k", ""), drop("k100")),
		"too long":               opsOfSize(2001),
		"far too long":           puts(24, strings.Repeat("k", 21), strings.Repeat("v", 80)),
	}
	for name, e := range badEntries() {
		op := impl.Op{Key: e.Key, Dead: e.Dead, Value: e.Value}
		// An op has no moment, so what is bad by its moment alone is a good op.
		if !strings.HasPrefix(name, "seq ") {
			lists[name] = []impl.Op{op}
			lists[name+", ahead of others"] = []impl.Op{op, put("x", "")}
			lists[name+", behind others"] = []impl.Op{put("x", ""), drop("y"), op}
		}
	}
	return lists
}

func TestStoreBatchRefuses(t *testing.T) {
	for name, w := range someTwins(t) {
		for what, ops := range badOps() {
			mustPanicNot(t, name+", "+what, func() {
				before := copyStore(w.s)
				s, code := impl.StoreBatch(w.s, ops)
				if code != impl.StoreBad || !sameStore(s, before) || !sameStore(w.s, before) {
					t.Errorf("%s, %s: code %d", name, what, code)
				}
			})
		}
	}
}

// The record's bytes count with the moment ahead of them, and what is refused for its size is so wherever it would lie.
func TestStoreBatchSize(t *testing.T) {
	for size := 1990; size <= 2010; size++ {
		ops := opsOfSize(size)
		if n := len(plainRecord(1, ops...)); n != size {
			t.Fatalf("%d bytes, not %d", n, size)
		}
		s, code := impl.StoreBatch(impl.StoreNew(), ops)
		if size <= 2000 && (code != impl.StoreDone || s.Blocks != 15) || size > 2000 && code != impl.StoreBad {
			t.Errorf("%d bytes: code %d", size, code)
		}
	}
	late := opened(t, headed(impl.DiskNew(), 1, "0 0 12345677 0"))
	if _, code := impl.StoreBatch(late, opsOfSize(1993)); code != impl.StoreDone {
		t.Errorf("a record of 2000 bytes at a long moment: code %d", code)
	}
	if _, code := impl.StoreBatch(late, opsOfSize(1994)); code != impl.StoreBad {
		t.Errorf("a record of 2001 bytes at a long moment: code %d", code)
	}
}

func TestStoreBatchLastMoment(t *testing.T) {
	last := opened(t, headed(impl.DiskNew(), 1, fmt.Sprint("0 0 ", impl.SeqMax-1, " 0")))
	s, code := impl.StoreBatch(last, []impl.Op{put("k", "v")})
	if code != impl.StoreDone || s.Seq != impl.SeqMax || !impl.StoreOk(s) {
		t.Fatalf("code %d: %v", code, s)
	}
	if value, ok := impl.StoreGet(s, "k", impl.SeqMax); value != "v" || !ok {
		t.Errorf("%q", value)
	}
	if again, code := impl.StoreBatch(s, []impl.Op{put("l", "w")}); code != impl.StoreBad || !sameStore(again, s) {
		t.Errorf("behind the last moment: code %d", code)
	}
	for what, do := range map[string]func(impl.Store) (impl.Store, int){"flush": impl.StoreFlush, "pack": impl.StorePack} {
		if after, code := do(s); code != impl.StoreDone || after.Seq != impl.SeqMax || !impl.StoreOk(after) {
			t.Errorf("%s at the last moment: code %d", what, code)
		}
	}
}

func TestStoreLogRoom(t *testing.T) {
	// Records of 3 and of 1 block: 18 may be met exactly.
	for _, ones := range []int{0, 1, 2, 3} {
		w := newTwin(t)
		for range 5 {
			w.batch(puts(4, "k", strings.Repeat("r", 80))...)
		}
		for range ones {
			w.batch(put("o", "1"))
		}
		if w.s.Blocks != 15+ones {
			t.Fatalf("%d blocks", w.s.Blocks)
		}
		before := copyStore(w.s)
		s, code := impl.StoreBatch(w.s, puts(4, "k", strings.Repeat("r", 80)))
		if ones == 0 && (code != impl.StoreDone || s.Blocks != 18 || !impl.StoreOk(s)) || ones > 0 && (code != impl.StoreLog || !sameStore(s, before)) {
			t.Errorf("%d ones: code %d", ones, code)
		}
		if s, code = impl.StoreBatch(w.s, []impl.Op{put("o", "2")}); ones < 3 && code != impl.StoreDone || ones == 3 && (code != impl.StoreLog || !sameStore(s, before)) {
			t.Errorf("%d ones: code %d of one block", ones, code)
		}
	}
	// In both logs, and no further: the log 1 ends where tables begin.
	w := newTwin(t).batch(put("t", "table")).flush()
	for range 18 {
		w.batch(put("k", "v"))
	}
	if _, code := impl.StoreBatch(w.s, []impl.Op{put("k", "v")}); code != impl.StoreLog {
		t.Errorf("code %d", code)
	}
	w.check("the log 1 is full")
}

func TestStoreFreshRoom(t *testing.T) {
	for _, n := range []int{58, 59, 60} {
		w := newTwin(t)
		for at := 0; at < n; at += 20 {
			w.batch(puts(min(20, n-at), fmt.Sprint("k", at), "")...)
		}
		for more := 1; more <= 3; more++ {
			s, code := impl.StoreBatch(w.s, puts(more, "z", ""))
			if n+more <= 60 && (code != impl.StoreDone || !impl.StoreOk(s)) || n+more > 60 && (code != impl.StoreLog || !sameStore(s, w.s)) {
				t.Errorf("%d and %d: code %d", n, more, code)
			}
		}
		if _, code := impl.StoreBatch(w.flush().s, puts(24, "z", "")); code != impl.StoreDone {
			t.Errorf("%d are flushed: code %d", n, code)
		}
	}
}

// What is looked for first is told first.
func TestStoreCodes(t *testing.T) {
	full := someTwins(t)["a full log"].s
	for _, left := range []int{0, 1, 9} {
		s := impl.StoreFall(full, left)
		if after, code := impl.StoreBatch(s, nil); code != impl.StoreBad || !sameStore(after, s) {
			t.Errorf("left %d: code %d of bad ops", left, code)
		}
		if after, code := impl.StoreBatch(s, []impl.Op{put("k", "v")}); code != impl.StoreLog || !sameStore(after, s) {
			t.Errorf("left %d: code %d of a full log", left, code)
		}
		last := opened(t, headed(impl.DiskNew(), impl.SeqMax, "0 0 0 0"))
		for what, do := range map[string]func(impl.Store) (impl.Store, int){"flush": impl.StoreFlush, "pack": impl.StorePack} {
			s := impl.StoreFall(last, left)
			if after, code := do(s); code != impl.StoreFull || !sameStore(after, s) {
				t.Errorf("left %d: code %d of a %s", left, code, what)
			}
		}
	}
	if impl.StoreDone != 0 || impl.StoreBad != 1 || impl.StoreLog != 2 || impl.StoreFull != 3 || impl.StoreDown != 4 {
		t.Error("codes")
	}
}

func TestPromise30(t *testing.T) {
	for name, w := range someTwins(t) {
		for _, seq := range []int{math.MinInt, -1, 0, w.s.Floor - 1, w.s.Floor, w.s.Floor + 1, w.s.Seq - 1, w.s.Seq, w.s.Seq + 1, impl.SeqMax, impl.SeqMax + 1, math.MaxInt} {
			told := map[string]string{}
			scan := impl.StoreScan(w.s, "", seq)
			for _, e := range scan {
				told[e.Key] = e.Value
			}
			if (seq < w.s.Floor || seq > impl.SeqMax) && len(scan) > 0 {
				t.Errorf("%s: %v at %d", name, scan, seq)
			}
			for _, key := range append(someKeys(), "k", "k.", "k.a", "k.b", "l", "m", "z", "none", "k100", "k0100", "k1101", "k2119") {
				want, there := told[key]
				if value, ok := impl.StoreGet(w.s, key, seq); value != want || ok != there {
					t.Errorf("%s: %s at %d: %q and %v", name, key, seq, value, ok)
				}
			}
		}
		for seq := w.s.Floor; seq <= w.s.Seq; seq++ {
			for _, prefix := range append(someKeys(), "k", "k.", "k.a", "k1", "k01", "z") {
				if got, want := impl.StoreScan(w.s, prefix, seq), plainScan(w.all, prefix, seq); !sameEntries(got, want) {
					t.Errorf("%s: %q at %d: %v, not %v", name, prefix, seq, got, want)
				}
			}
		}
	}
}

// badStores are stores that are not ok, each for one reason.
func badStores(t *testing.T) map[string]impl.Store {
	twins := someTwins(t)
	list := map[string]impl.Store{"nothing": {}, "a new disk": {Disk: impl.DiskNew()}}
	for _, name := range []string{"new", "fresh", "two tables", "packed again, and fresh"} {
		change := func(what string, do func(s *impl.Store)) {
			s := copyStore(twins[name].s)
			do(&s)
			list[name+", "+what] = s
		}
		change("head", func(s *impl.Store) { s.Head++ })
		change("head of before", func(s *impl.Store) { s.Head-- })
		change("log", func(s *impl.Store) { s.Log = 1 - s.Log })
		change("turn", func(s *impl.Store) { s.Turn++ })
		change("blocks", func(s *impl.Store) { s.Blocks++ })
		change("blocks far off", func(s *impl.Store) { s.Blocks = math.MaxInt })
		change("nums", func(s *impl.Store) { s.Nums-- })
		change("seq", func(s *impl.Store) { s.Seq++ })
		change("seq far below", func(s *impl.Store) { s.Seq = math.MinInt })
		change("floor", func(s *impl.Store) { s.Floor-- })
		change("a table more", func(s *impl.Store) { s.Tables = append(s.Tables, impl.Extent{At: 130, Size: 1, Turn: 1}) })
		change("a fresh one more", func(s *impl.Store) { s.Fresh = append(s.Fresh, impl.Entry{Key: "zz", Seq: 1}) })
		change("something waits", func(s *impl.Store) { s.Disk.Waits = []impl.Wait{{At: 139, Text: ""}} })
		change("left", func(s *impl.Store) { s.Disk.Left = -2 })
		change("a block less", func(s *impl.Store) { s.Disk.Blocks = s.Disk.Blocks[:139] })
		change("a long block", func(s *impl.Store) { s.Disk.Blocks[139] = strings.Repeat("x", 201) })
		change("no head", func(s *impl.Store) { s.Disk.Blocks[0], s.Disk.Blocks[1] = "", "" })
		change("a torn head", func(s *impl.Store) { s.Disk.Blocks[s.Head%2] = s.Disk.Blocks[s.Head%2][1:] })
	}
	change := func(name, what string, do func(s *impl.Store)) {
		s := copyStore(twins[name].s)
		do(&s)
		list[name+", "+what] = s
	}
	change("fresh", "nothing fresh", func(s *impl.Store) { s.Fresh = nil })
	change("fresh", "another value", func(s *impl.Store) { s.Fresh[0].Value = "spoilt" })
	change("fresh", "another order", func(s *impl.Store) { s.Fresh[0], s.Fresh[1] = s.Fresh[1], s.Fresh[0] })
	change("fresh", "a torn record", func(s *impl.Store) { s.Disk.Blocks[3] = "" })
	change("two tables", "no tables", func(s *impl.Store) { s.Tables = nil })
	change("two tables", "another order", func(s *impl.Store) { s.Tables[0], s.Tables[1] = s.Tables[1], s.Tables[0] })
	change("two tables", "another place", func(s *impl.Store) { s.Tables[0].At++ })
	change("two tables", "another turn", func(s *impl.Store) { s.Tables[1].Turn++ })
	change("two tables", "a torn table", func(s *impl.Store) { s.Disk.Blocks[s.Tables[1].At] = "" })
	return list
}

func TestBadStoreIsNothing(t *testing.T) {
	for name, s := range badStores(t) {
		mustPanicNot(t, name, func() {
			if impl.StoreOk(s) {
				t.Errorf("%s: it is ok", name)
			}
			before := copyStore(s)
			for what, do := range map[string]func() (impl.Store, int){
				"batch":     func() (impl.Store, int) { return impl.StoreBatch(s, []impl.Op{put("k", "v")}) },
				"bad batch": func() (impl.Store, int) { return impl.StoreBatch(s, nil) },
				"flush":     func() (impl.Store, int) { return impl.StoreFlush(s) },
				"pack":      func() (impl.Store, int) { return impl.StorePack(s) },
			} {
				if after, code := do(); code != impl.StoreBad || !noStore(after) {
					t.Errorf("%s: %s: code %d", name, what, code)
				}
			}
			for _, seq := range []int{0, s.Floor, s.Seq, impl.SeqMax} {
				if value, ok := impl.StoreGet(s, "k", seq); value != "" || ok || len(impl.StoreScan(s, "", seq)) != 0 {
					t.Errorf("%s: it has something at %d", name, seq)
				}
			}
			if len(impl.StoreFree(s)) != 0 || !noStore(impl.StoreFall(s, 3)) || !noStore(impl.StoreFall(s, 0)) {
				t.Errorf("%s: it is something", name)
			}
			if !sameStore(s, before) {
				t.Errorf("%s: it is changed", name)
			}
		})
	}
}

func TestStoreFall(t *testing.T) {
	for name, w := range someTwins(t) {
		for _, left := range []int{0, 1, 2, 77, math.MaxInt} {
			want := copyStore(w.s)
			want.Disk.Left = left
			if got := impl.StoreFall(w.s, left); !sameStore(got, want) || !impl.StoreOk(got) {
				t.Errorf("%s: left %d", name, left)
			}
			if again := impl.StoreFall(want, 5); again.Disk.Left != 5 || !impl.StoreOk(again) {
				t.Errorf("%s: left %d, and then 5", name, left)
			}
		}
		for _, left := range []int{-1, -2, math.MinInt} {
			if !noStore(impl.StoreFall(w.s, left)) {
				t.Errorf("%s: left %d", name, left)
			}
		}
	}
}

// What is answered shares no memory with what was asked, and what was asked stays, with the room behind its end.
func TestStoreMemory(t *testing.T) {
	s := copyStore(someTwins(t)["a table and fresh"].s)
	blocks, tables, fresh := append(s.Disk.Blocks, "behind"), append(s.Tables, impl.Extent{At: 77}), append(s.Fresh, impl.Entry{Key: "behind"})
	s.Disk.Blocks, s.Tables, s.Fresh = blocks[:140:141], tables[:1:2], fresh[:len(s.Fresh):len(fresh)]
	ops := []impl.Op{put("k", "v"), drop("l"), put("behind", "")}
	before := copyStore(s)
	for name, do := range map[string]func() impl.Store{
		"open":      func() impl.Store { x, _ := impl.StoreOpen(s.Disk); return x },
		"batch":     func() impl.Store { x, _ := impl.StoreBatch(s, ops[:2:3]); return x },
		"bad batch": func() impl.Store { x, _ := impl.StoreBatch(s, nil); return x },
		"flush":     func() impl.Store { x, _ := impl.StoreFlush(s); return x },
		"pack":      func() impl.Store { x, _ := impl.StorePack(s); return x },
		"fall":      func() impl.Store { return impl.StoreFall(s, 3) },
		"down":      func() impl.Store { x, _ := impl.StoreFlush(impl.StoreFall(s, 2)); return x },
	} {
		after := do()
		list, extents, entries := after.Disk.Blocks[:cap(after.Disk.Blocks)], after.Tables[:cap(after.Tables)], after.Fresh[:cap(after.Fresh)]
		for i := range list {
			list[i] = "spoilt"
		}
		for i := range extents {
			extents[i].At = 7777
		}
		for i := range entries {
			entries[i].Key = "spoilt"
		}
		if !sameStore(s, before) || blocks[140] != "behind" || tables[1].At != 77 || fresh[len(fresh)-1].Key != "behind" || ops[2].Key != "behind" || ops[0].Key != "k" {
			t.Fatalf("%s: an argument is changed", name)
		}
	}
	scan, free := impl.StoreScan(s, "", s.Seq), impl.StoreFree(s)
	scan[0].Key, free[0] = "spoilt", 7777
	if !sameStore(s, before) || impl.StoreScan(s, "", s.Seq)[0].Key == "spoilt" || impl.StoreFree(s)[0] == 7777 {
		t.Error("two answers share memory")
	}
}
