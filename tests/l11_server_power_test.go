package tests

import (
	"fmt"
	"maps"
	"math"
	"slices"
	"strings"
	"sync"
	"testing"

	"loop.example/muniment/impl"
)

// cut is the disk of a server that lost power in what a text asks for.
type cut struct {
	what  string
	s     impl.Server
	after impl.Server // the server behind it, if power is not lost
	stop  impl.Disk   // the disk as it stopped
	left  int
	mask  int
	total int // how many writes and flushes there are in it
	d     impl.Disk
}

// someMasks are some choices of what may stay of so many that wait.
func someMasks(waits int) []int {
	all := 1<<waits - 1
	list := []int{0, 1, all, max(0, all-1), all / 3}
	slices.Sort(list)
	return slices.Compact(list)
}

// powerTexts are some of what power may be lost in: changes, what changes nothing, and tending.
func powerTexts(m impl.Model) []string {
	list := changes(m)
	var few []string
	for at := 0; at < len(list); at += 2 {
		few = append(few, list[at])
	}
	return append(few, small(m), large(m), "flush", "pack")
}

// cutsOnce keeps what allCuts tells, as more than one test asks for it.
var cutsOnce struct {
	sync.Once
	list []cut
}

// allCuts are cuts of all sorts of servers, at each place where a disk can stop. Who asks does not write into them.
func allCuts(t *testing.T) []cut {
	t.Helper()
	cutsOnce.Do(func() {
		for what, s := range someServers(t) {
			before := copyServer(s)
			for _, text := range powerTexts(s.Model) {
				cutsOnce.list = append(cutsOnce.list, cutsOf(what, s, text)...)
			}
			if !sameServer(s, before) {
				t.Fatalf("%s: it is changed", what)
			}
		}
	})
	if len(cutsOnce.list) < 3000 {
		t.Fatal("too few cuts")
	}
	return cutsOnce.list
}

// cutsOf are cuts of one server in what one text asks for.
func cutsOf(what string, s impl.Server, text string) []cut {
	var list []cut
	c := cut{s: s, total: spends(s, text)}
	switch text {
	case "flush", "pack":
		c.after, _ = impl.ServerTend(s, text == "pack")
	default:
		c.after, _ = plainDo(s, text)
	}
	for c.left = range c.total + 3 {
		c.stop = plainStop(s, text, c.left)
		for _, c.mask = range someMasks(len(c.stop.Waits)) {
			c.what = fmt.Sprintf("%s, %q, left %d of %d, mask %x", what, text, c.left, c.total, c.mask)
			c.d = impl.ServerCut(s, text, c.left, c.mask)
			list = append(list, c)
		}
	}
	return list
}

func TestPromise65(t *testing.T) {
	for _, c := range allCuts(t) {
		if want := impl.DiskCrash(c.stop, c.mask); !sameDisk(c.d, want) || c.d.Left != impl.DiskForever || len(c.d.Waits) != 0 {
			t.Fatalf("%s: another disk", c.what)
		}
		x, ok := impl.ServerOpen(c.d)
		if !ok || !impl.ServerOk(x) {
			t.Fatalf("%s: not opened", c.what)
		}
		if !sameModel(x.Model, c.s.Model) && !sameModel(x.Model, c.after.Model) {
			t.Fatalf("%s: %v", c.what, x.Model)
		}
		if c.left == 0 && !sameServer(x, c.s) {
			t.Errorf("%s: something was written", c.what)
		}
		if c.left >= c.total && !sameServer(x, c.after) {
			t.Errorf("%s: it is not as if no power was lost", c.what)
		}
	}
}

// Power is lost between tending and the batch that asked for it: the store is tended, and the request is not done.
func TestServerCutBetween(t *testing.T) {
	for _, name := range []string{"fresh full", "log full", "four tables, fresh full", "four tables, log full", "room for a pack alone", "the last turn but one"} {
		s := someServers(t)[name]
		tends := tended(t, s, strings.HasPrefix(name, "four") || strings.HasPrefix(name, "room"))
		text := large(s.Model)
		after, said := impl.ServerDo(s, text)
		if said != fmt.Sprint("ok ", s.Model.Rev+1) || after.Store.Turn != tends.Store.Turn {
			t.Fatalf("%s: %q", name, said)
		}
		size := tends.Store.Tables[0].Size
		for _, c := range []struct {
			left int
			mask int
			want impl.Server
		}{{size + 2, 0, s}, {size + 2, 1, tends}, {size + 3, 0, tends}, {size + 4, 0, tends}, {size + 5, 0, tends}, {size + 5, 3, after}, {size + 6, 0, after}} {
			x, ok := impl.ServerOpen(impl.ServerCut(s, text, c.left, c.mask))
			if !ok || !impl.ServerOk(x) || !sameModel(x.Model, c.want.Model) || x.Store.Turn != c.want.Store.Turn || x.Store.Nums != c.want.Store.Nums || x.Store.Seq != c.want.Store.Seq {
				t.Errorf("%s, left %d, mask %d: turn %d, %v", name, c.left, c.mask, x.Store.Turn, x.Model)
			}
			// Done again, it is answered as at first, or as it should be if it was done; the numbers are those that come next.
			y, said := impl.ServerDo(x, text)
			if sameModel(c.want.Model, after.Model) {
				if said != fmt.Sprint("no stale ", after.Model.Rev) || !sameServer(x, y) {
					t.Errorf("%s, left %d, mask %d: again %q", name, c.left, c.mask, said)
				}
			} else if said != fmt.Sprint("ok ", s.Model.Rev+1) || !sameModel(y.Model, after.Model) {
				t.Errorf("%s, left %d, mask %d: again %q", name, c.left, c.mask, said)
			}
		}
	}
}

// A number that was given by what stayed is not given again; one of what was lost is.
func TestServerCutNumbers(t *testing.T) {
	s := served(t, impl.ServerNew(), "space a all -1", "put a x b", "drop a x")
	for _, mask := range []int{0, 1} {
		x, ok := impl.ServerOpen(impl.ServerCut(s, "put a y b", 1, mask))
		if !ok || x.Model.Uid != 1+mask || x.Model.Rev != 3+mask {
			t.Fatalf("mask %d: %v", mask, x.Model)
		}
		y := served(t, x, "put a z b")
		one, _ := thingOf(y.Model, "a", "z")
		if one.Uid != 2+mask || one.Rev != 4+mask {
			t.Errorf("mask %d: %v", mask, one)
		}
		if _, there := thingOf(y.Model, "a", "y"); there != (mask == 1) {
			t.Errorf("mask %d: y is there: %v", mask, there)
		}
		// The moment and the place in the log of what was lost are those of what comes next.
		if y.Store.Seq != 5+mask || y.Store.Nums != 5+mask {
			t.Errorf("mask %d: moment %d, %d records", mask, y.Store.Seq, y.Store.Nums)
		}
		if again, ok := impl.ServerOpen(y.Store.Disk); !ok || !sameServer(again, y) {
			t.Errorf("mask %d: opened again %v", mask, again.Model)
		}
	}
}

// There is no cut at a place below 0, nor with a mask below 0.
func TestServerCutBelow(t *testing.T) {
	for what, s := range someServers(t) {
		for _, text := range []string{"flush", "pack", "limit all 5", "list all", "what"} {
			for _, c := range [][2]int{{-1, 0}, {0, -1}, {-1, -1}, {math.MinInt, 5}, {5, math.MinInt}} {
				if !noDisk(impl.ServerCut(s, text, c[0], c[1])) {
					t.Errorf("%s, %q: cut at %v", what, text, c)
				}
			}
			all, done := impl.ServerCut(s, text, math.MaxInt, math.MaxInt), plainStop(s, text, math.MaxInt)
			if !sameTexts(all.Blocks, done.Blocks) || all.Left != impl.DiskForever {
				t.Errorf("%s, %q: cut far behind", what, text)
			}
		}
		// What changes nothing writes nothing; the words of tending with more behind them are no tending.
		for _, text := range append(noRequests(), "flush now", "Flush", "list all", "watch all 0", "close all", "step all") {
			for _, left := range []int{0, 1, 99} {
				if text != "flush" && text != "pack" && !sameDisk(impl.ServerCut(s, text, left, 3), s.Store.Disk) {
					t.Errorf("%s, %q: something was written", what, text)
				}
			}
		}
	}
}

func TestPromise66(t *testing.T) {
	c := chance(66)
	// In a fixed order, so that each run does the same.
	for _, what := range slices.Sorted(maps.Keys(someServers(t))) {
		s := someServers(t)[what]
		for range 4 {
			x := s
			for step, text := range []string{"flush", "pack", "flush", "flush", "pack", "pack", "flush"} {
				left, mask := c.next(spends(x, text)+2), c.next(64)
				y, ok := impl.ServerOpen(impl.ServerCut(x, text, left, mask))
				if !ok || !impl.ServerOk(y) || !sameModel(y.Model, s.Model) || y.Store.Seq != s.Store.Seq {
					t.Fatalf("%s: step %d, %s, left %d, mask %d: %v", what, step, text, left, mask, y.Model)
				}
				x = y
			}
			want, said := impl.ModelDo(s.Model, read(t, "limit all 4321"))
			if y, answer := impl.ServerDo(x, "limit all 4321"); answer != "no full" && (answer != said || !sameModel(y.Model, want)) {
				t.Errorf("%s: then %q, not %q", what, answer, said)
			}
		}
	}
}

func TestPromise71(t *testing.T) {
	seen := [2]int{}
	for _, c := range allCuts(t) {
		x, ok := impl.ServerOpen(c.d)
		if !ok {
			t.Fatalf("%s: not opened", c.what)
		}
		news := 0
		for _, name := range names(x.Model, names(c.s.Model)...) {
			pasts, ok := impl.ModelWatch(x.Model, name, c.s.Model.Rev)
			if !ok {
				t.Fatalf("%s: forgotten", c.what)
			}
			news += len(pasts)
		}
		if news != x.Model.Rev-c.s.Model.Rev || news > 1 {
			t.Fatalf("%s: %d are told of %d", c.what, news, x.Model.Rev-c.s.Model.Rev)
		}
		seen[news]++
	}
	if seen[0] < 500 || seen[1] < 500 {
		t.Errorf("%v", seen)
	}
}

// Who watches all along, with power lost again and again, is told all that happened, in order, by just what is there.
func TestPromise71All(t *testing.T) {
	c := chance(71)
	s := served(t, impl.ServerNew(), "space a all -1")
	known, happened := []impl.Past{}, []impl.Past{}
	for n := range 60 {
		text := []string{"put a x body", "set a x " + fmt.Sprint(s.Model.Rev) + " other", "drop a x", "limit a 50"}[n%4]
		since := s.Model.Rev
		x, ok := impl.ServerOpen(impl.ServerCut(s, text, c.next(5), c.next(8)))
		if !ok {
			t.Fatal("not opened")
		}
		if x.Model.Rev > since {
			happened = append(happened, x.Model.Pasts[len(x.Model.Pasts)-1])
		}
		news, ok := impl.ModelWatch(x.Model, "a", since)
		if known = append(known, news...); !ok || !slices.Equal(known, happened) {
			t.Fatalf("%v of %v", known, happened)
		}
		if n%7 == 6 {
			x, _ = impl.ServerTend(x, n%2 == 0)
		}
		s = x
	}
	if len(known) < 10 || len(known) > 55 {
		t.Errorf("%d", len(known))
	}
}
