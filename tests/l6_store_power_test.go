package tests

import (
	"fmt"
	"math"
	"slices"
	"strings"
	"testing"

	"loop.example/muniment/impl"
)

// masks are what may stay of so many that wait: each choice of few, some choices of many.
func masks(waits int) []int {
	if waits > 4 {
		return []int{0, 1, 2, 5, 1<<waits - 1, 1<<waits - 2, 1 << (waits - 1), 0x2aaaaaaaaaaaaaaa, 0x5555555555555555, math.MaxInt}
	}
	var list []int
	for mask := range 1 << waits {
		list = append(list, mask)
	}
	return list
}

// step is what a disk is told: to write a block, or, at -1, to flush.
type step struct {
	at   int
	text string
}

// stepsOf is what the disk was told between a store and the next one.
func stepsOf(s, next impl.Store) []step {
	var steps []step
	from := func(at, size int) {
		for place := range size {
			steps = append(steps, step{at + place, next.Disk.Blocks[at+place]})
		}
		steps = append(steps, step{at: -1})
	}
	switch {
	case next.Head == s.Head:
		from(2+18*s.Log+s.Blocks, next.Blocks-s.Blocks)
	case len(next.Tables) > 0 && next.Tables[0].Turn == next.Turn:
		from(next.Tables[0].At, next.Tables[0].Size)
		from(next.Head%2, 1)
	default:
		from(next.Head%2, 1)
	}
	return steps
}

// did is a disk that was told some steps.
func did(d impl.Disk, steps []step) impl.Disk {
	for _, s := range steps {
		if s.at < 0 {
			d = impl.DiskFlush(d)
		} else {
			d = impl.DiskWrite(d, s.at, s.text)
		}
	}
	return d
}

// mustStop lets the disk stop at each place of what is done to a store, and then lose power. It checks the code, the disk as it stopped, and what is opened.
func mustStop(t *testing.T, name string, s impl.Store, do func(impl.Store) (impl.Store, int), opens func(what string, got impl.Store, done bool)) {
	t.Helper()
	next, code := do(s)
	if code != impl.StoreDone {
		t.Fatalf("%s: code %d", name, code)
	}
	steps := stepsOf(s, next)
	for left := range len(steps) + 3 {
		what := fmt.Sprintf("%s, left %d of %d", name, left, len(steps))
		fall := impl.StoreFall(s, left)
		stopped, code := do(fall)
		want := copyStore(s)
		wantCode := impl.StoreDown
		if left > len(steps) {
			want, wantCode = copyStore(next), impl.StoreDone
		}
		want.Disk = did(fall.Disk, steps)
		if code != wantCode || !sameStore(stopped, want) {
			t.Fatalf("%s: code %d, %v", what, code, stopped)
		}
		if left > len(steps) && !impl.StoreOk(stopped) {
			t.Errorf("%s: not ok", what)
		}
		for _, mask := range masks(len(stopped.Disk.Waits)) {
			got, ok := impl.StoreOpen(impl.DiskCrash(stopped.Disk, mask))
			if !ok || !impl.StoreOk(got) {
				t.Fatalf("%s, mask %x: not opened", what, mask)
			}
			opens(fmt.Sprintf("%s, mask %x", what, mask), got, left >= len(steps))
		}
	}
}

func TestPromise27(t *testing.T) {
	for name, w := range someTwins(t) {
		for what, ops := range batches() {
			do := func(s impl.Store) (impl.Store, int) { return impl.StoreBatch(s, ops) }
			next, code := do(w.s)
			if code != impl.StoreDone {
				continue
			}
			next.Disk.Left = impl.DiskForever
			old, now := impl.StoreScan(w.s, "", w.s.Seq), impl.StoreScan(next, "", next.Seq)
			mustStop(t, name+", "+what, w.s, do, func(what string, got impl.Store, done bool) {
				scan := impl.StoreScan(got, "", got.Seq)
				behind := got.Seq == next.Seq && sameEntries(scan, now)
				ahead := got.Seq == w.s.Seq && sameEntries(scan, old)
				if !behind && !ahead || done && !behind {
					t.Errorf("%s: %v", what, scan)
				}
			})
		}
	}
}

func TestPromise28(t *testing.T) {
	for name, w := range someTwins(t) {
		old := impl.StoreScan(w.s, "", w.s.Seq)
		for what, do := range tends() {
			next, code := do(w.s)
			if code != impl.StoreDone {
				continue
			}
			mustStop(t, name+", "+what, w.s, do, func(what string, got impl.Store, done bool) {
				if got.Seq != w.s.Seq || !sameEntries(impl.StoreScan(got, "", got.Seq), old) {
					t.Errorf("%s: %v", what, got)
				}
				if got.Head != w.s.Head && got.Head != next.Head || done && got.Head != next.Head {
					t.Errorf("%s: head %d", what, got.Head)
				}
			})
		}
	}
}

// What power was lost in can be done again, and more behind it; what stayed of it is in nobody's way.
func TestStoreGoesOn(t *testing.T) {
	for _, name := range []string{"fresh", "a table and fresh", "four tables and fresh", "a table of two pieces", "packed again, and fresh"} {
		w := someTwins(t)[name]
		tend := tends()
		for what, do := range map[string]func(impl.Store) (impl.Store, int){
			"flush": tend["flush"], "pack": tend["pack"],
			"batch": func(s impl.Store) (impl.Store, int) { return impl.StoreBatch(s, batches()["a new key"]) },
			"long":  func(s impl.Store) (impl.Store, int) { return impl.StoreBatch(s, batches()["as many as may be"]) },
		} {
			if _, code := do(w.s); code != impl.StoreDone {
				continue
			}
			mustStop(t, name+", "+what, w.s, do, func(what string, got impl.Store, done bool) {
				for _, again := range tend {
					x := &twin{t: t, s: got, all: impl.StoreScan(got, "", got.Seq)}
					if s, code := again(got); code == impl.StoreDone {
						x.s = s
					}
					if !impl.StoreOk(x.s) || !sameEntries(impl.StoreScan(x.s, "", x.s.Seq), x.all) {
						t.Fatalf("%s: tended again: %v", what, x.s)
					}
					x.pack().batch(put("k", "on"), drop("l")).flush().batch(put("l", "and on")).check(what + ", and on")
				}
			})
		}
	}
}

// A disk that stops between a table and its head: the table is there, whole, and nobody has it.
func TestStoreTableWithoutHead(t *testing.T) {
	w := someTwins(t)["a table and fresh"]
	for what, do := range tends() {
		next, _ := do(w.s)
		lost := next.Tables[0]
		stopped, code := do(impl.StoreFall(w.s, lost.Size+1))
		if code != impl.StoreDown || len(stopped.Disk.Waits) != 0 || !sameTexts(stopped.Disk.Blocks[lost.At:lost.At+lost.Size], next.Disk.Blocks[lost.At:lost.At+lost.Size]) {
			t.Fatalf("%s: code %d, it did not stop between the two", what, code)
		}
		if sameTexts(stopped.Disk.Blocks, w.s.Disk.Blocks) || !sameTexts(stopped.Disk.Blocks[:38], w.s.Disk.Blocks[:38]) {
			t.Errorf("%s: what is written is not the table alone", what)
		}
		got, ok := impl.StoreOpen(impl.DiskCrash(stopped.Disk, 0))
		want := copyStore(w.s)
		want.Disk.Blocks = stopped.Disk.Blocks
		if !ok || !sameStore(got, want) || !slices.Contains(impl.StoreFree(got), lost.At) {
			t.Fatalf("%s: %v", what, got)
		}
		// A batch goes on in the old turn; the next table, of the same turn and place as the lost one, has it.
		on := w.copied()
		on.s = got
		on.batch(put("k.a", "on")).flush().check(what + ": flushed behind it")
		if on.s.Tables[0].At != lost.At || on.s.Tables[0].Turn != lost.Turn {
			t.Errorf("%s: %v, not where %v was", what, on.s.Tables, lost)
		}
		if value, ok := impl.StoreGet(on.s, "k.a", on.s.Seq); value != "on" || !ok {
			t.Errorf("%s: %q", what, value)
		}
	}
}

// junk is texts for free blocks: nothing, noise, and blocks that are good where they were made for.
func junk(c *chance, s impl.Store) func() string {
	list := append(slices.Clone(s.Disk.Blocks), "", "x", strings.Repeat("x", impl.BlockMax))
	for num := range 3 {
		list = append(list, plainFrame(s.Turn, num, plainRecord(s.Seq+1, put("junk", "junk")))...)
		list = append(list, plainFrame(0, s.Head+num, "0 99 99 0")...)
		list = append(list, plainFrame(s.Turn+num, 0, "table 0 0000000000000000\n")...)
	}
	return func() string {
		if c.next(4) == 0 {
			return c.text(c.next(impl.BlockMax + 1))
		}
		return list[c.next(len(list))]
	}
}

func TestPromise29(t *testing.T) {
	c := chance(29)
	for name, w := range someTwins(t) {
		free := impl.StoreFree(w.s)
		var want []int
		for at := 38; at < 140; at++ {
			has := func(x impl.Extent) bool { return at >= x.At && at < x.At+x.Size }
			if !slices.ContainsFunc(w.s.Tables, has) {
				want = append(want, at)
			}
		}
		if !slices.Equal(free, want) {
			t.Errorf("%s: free %v, not %v", name, free, want)
		}
		next := junk(&c, w.s)
		for range 12 {
			x := w.copied()
			for _, at := range free {
				x.s.Disk.Blocks[at] = next()
			}
			got, ok := impl.StoreOpen(x.s.Disk)
			if !ok || !sameStore(got, x.s) {
				t.Fatalf("%s: %v", name, got)
			}
			x.check(name + ", with junk")
			x.pack().batch(put("k", "on")).flush().check(name + ", with junk, and on")
		}
	}
}

// Blocks that an older head has are free: the newer head is read, though of the older one's tables nothing is left.
func TestStoreOlderHead(t *testing.T) {
	for name, w := range someTwins(t) {
		if len(w.s.Tables) == 0 {
			continue
		}
		packed := w.copied().pack()
		older := w.s.Disk.Blocks[w.s.Head%2]
		if packed.s.Disk.Blocks[w.s.Head%2] != older {
			t.Fatalf("%s: the older head is not there", name)
		}
		free := impl.StoreFree(packed.s)
		for _, x := range w.s.Tables {
			for at := x.At; at < x.At+x.Size; at++ {
				if !slices.Contains(free, at) {
					t.Fatalf("%s: block %d of the older head is not free", name, at)
				}
				packed.s.Disk.Blocks[at] = "gone"
			}
		}
		packed.check(name)
		// Without the newer head the older one's tables are asked for, and are not there.
		d := copyDisk(packed.s.Disk)
		d.Blocks[packed.s.Head%2] = ""
		if s, ok := impl.StoreOpen(d); ok || !noStore(s) {
			t.Errorf("%s: opened without its tables", name)
		}
		// The next table comes to where those of the older head were, which is overwritten just then.
		on := packed.copied().batch(put("k", "on"), put("on", strings.Repeat("o", 80)))
		mustStop(t, name, on.s, impl.StoreFlush, func(what string, got impl.Store, done bool) {
			if got.Seq != on.s.Seq || !sameEntries(impl.StoreScan(got, "", got.Seq), plainScan(on.all, "", on.s.Seq)) {
				t.Errorf("%s: %v", what, got)
			}
		})
	}
}

// anyOps are ops of few keys.
func anyOps(c *chance) []impl.Op {
	var ops []impl.Op
	for i := range 12 {
		key := fmt.Sprint("k", i)
		switch c.next(8) {
		case 0:
			ops = append(ops, drop(key))
		case 1, 2:
			ops = append(ops, put(key, strings.Repeat("v", c.next(81))))
		}
	}
	if len(ops) == 0 {
		return []impl.Op{put("k", "")}
	}
	return ops
}

// One thing behind the other is done to a store, at some of which power is lost; what was answered is there all along.
func TestStoreAnySteps(t *testing.T) {
	c := chance(31)
	for range 12 {
		w := newTwin(t)
		for step := range 60 {
			what := fmt.Sprint("step ", step)
			ops := anyOps(&c)
			do := impl.StoreFlush
			kind := c.next(10)
			switch {
			case kind < 7:
				do = func(s impl.Store) (impl.Store, int) { return impl.StoreBatch(s, ops) }
			case kind == 7:
				do = impl.StorePack
			}
			s := w.s
			if c.next(3) == 0 {
				s = impl.StoreFall(s, c.next(12))
			}
			s, code := do(s)
			if code == impl.StoreDown || s.Disk.Left >= 0 {
				s, _ = impl.StoreOpen(impl.DiskCrash(s.Disk, c.next(1<<30)))
			}
			if s.Seq == w.s.Seq+1 {
				w.note(ops)
			}
			if code == impl.StoreDone && kind < 7 && s.Seq != w.s.Seq+1 || code == impl.StoreBad || s.Floor > w.s.Floor && kind != 7 {
				t.Fatalf("%s: code %d, %v", what, code, s)
			}
			w.s = s
			if s.Floor == s.Seq {
				w.all = plainTrim(w.all, s.Seq, true)
			}
			w.check(what)
		}
	}
}
