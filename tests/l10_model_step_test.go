package tests

import (
	"fmt"
	"slices"
	"strings"
	"testing"

	"loop.example/muniment/impl"
)

// stepped does so many steps at most, as long as they are done, and tells how many were.
func stepped(m impl.Model, most int) (impl.Model, int) {
	for n := range most {
		x, said := impl.ModelDo(m, impl.Req{Kind: impl.ReqStep})
		if !strings.HasPrefix(said, "ok ") {
			return m, n
		}
		m = x
	}
	return m, most
}

// manyModels are some models, and some of each walk.
func manyModels(t *testing.T) map[string]impl.Model {
	t.Helper()
	models := someModels(t)
	for _, list := range walks() {
		for step, d := range list {
			if step%5 == 0 {
				models[fmt.Sprint(d.what, ", step ", step)] = d.x
			}
		}
	}
	return models
}

// fewChangesLeft says whether a model has no room for all that could be left to be done.
func fewChangesLeft(m impl.Model) bool {
	return m.Rev > impl.CountMax-50
}

func TestPromise52(t *testing.T) {
	waits := 0
	for what, m := range manyModels(t) {
		before := copyModel(m)
		x, steps := stepped(m, 1000)
		if got := impl.ModelRest(m); got != steps || !sameModel(m, before) {
			t.Fatalf("%s: %d are left, not %d", what, got, steps)
		}
		going, kept := 0, false
		for _, one := range m.Things {
			if plainGoing(m, one.Space) {
				going++
			}
		}
		for _, s := range m.Spaces {
			if plainGoing(m, s.Name) {
				going++
			}
		}
		if steps > going || impl.ModelRest(x) != 0 {
			t.Errorf("%s: %d steps for %d", what, steps, going)
		}
		if fewChangesLeft(m) {
			continue
		}
		for _, one := range x.Things {
			if !plainGoing(x, one.Space) {
				continue
			}
			if kept = true; !one.Gone || len(one.Marks) == 0 {
				t.Errorf("%s: %v is left", what, one)
			}
		}
		if kept {
			waits++
		} else if slices.ContainsFunc(x.Spaces, func(s impl.Space) bool { return s.Gone }) {
			t.Errorf("%s: a space is left: %v", what, x.Spaces)
		}
		if _, said := impl.ModelDo(x, impl.Req{Kind: impl.ReqStep}); said != "idle" {
			t.Errorf("%s: then %q", what, said)
		}
	}
	if waits == 0 {
		t.Error("no space waits for marks")
	}
}

// How many steps are left, counted by hand.
func TestPromise52Counts(t *testing.T) {
	models := someModels(t)
	for what, want := range map[string]int{
		"new": 0, "busy": 0, "dropped": 0,
		// z has marks and is Gone: nothing goes, as it keeps b.
		"inner one to go": 0,
		// x and y in a: x goes, y is marked as Gone; b is kept by z.
		"outer one to go": 2, "both to go": 2,
		// And in c: x is marked as Gone, y in d goes; x in d waits already.
		"all but all to go": 4, "in the middle": 1, "waits for marks": 0, "empty ones to go": 3,
		"as many, some to go": 8, "no change left": 0, "a change left": 1, "some changes left": 2,
	} {
		if got := impl.ModelRest(models[what]); got != want {
			t.Errorf("%s: %d, not %d", what, got, want)
		}
	}
	if got := impl.ModelRest(late(models["all but all to go"], 3)); got != 3 {
		t.Errorf("with three changes left: %d", got)
	}
}

// What a step does: the first thing that can go, or be told to; then the first space that is empty.
func TestModelSteps(t *testing.T) {
	m := someModels(t)["all but all to go"]
	for i, want := range []string{"{21 - a x}", "{22 = a y}", "{23 = c x}", "{24 - d y}"} {
		if m = after(t, m, "step"); fmt.Sprint(m.Pasts[7]) != want {
			t.Fatalf("step %d: %v", i, m.Pasts[7])
		}
	}
	m = after(t, m, "unmark d x k")
	if got := fmt.Sprint(m.Pasts[7]); got != "{25 - d x}" {
		t.Error(got)
	}
	for _, c := range [][2]string{
		{"step", "{26 - d }"}, {"unmark c x l", "{27 = c x}"}, {"unmark c x k", "{28 - c x}"}, {"step", "{29 - c }"}, {"unmark a y k", "{30 - a y}"}, {"unmark b z l", "{31 = b z}"}, {"unmark b z k", "{32 - b z}"}, {"step", "{33 - b }"}, {"step", "{34 - a }"},
	} {
		if m = after(t, m, c[0]); fmt.Sprint(m.Pasts[7]) != c[1] {
			t.Fatalf("%s: %v, not %s", c[0], m.Pasts[7], c[1])
		}
	}
	if _, said := impl.ModelDo(m, impl.Req{Kind: impl.ReqStep}); said != "idle" || impl.ModelBoard(m) != "count 34\nall in - -1 here 0 uses 0\n" {
		t.Errorf("%q, %q", said, impl.ModelBoard(m))
	}
}

// A space goes before a later thing can, only if all things that can go have gone; one that has a space in it stays until that goes.
func TestModelStepsOrder(t *testing.T) {
	m := after(t, impl.ModelNew(), "space a all -1", "space b a -1", "space c all -1", "put c x body", "put c y body", "close a", "close c")
	for i, want := range []string{"{8 - c x}", "{9 - c y}", "{10 - b }", "{11 - a }", "{12 - c }"} {
		if m = after(t, m, "step"); fmt.Sprint(m.Pasts[len(m.Pasts)-1]) != want {
			t.Fatalf("step %d: %v", i, m.Pasts)
		}
	}
	// One that was marked as Gone by itself, in a space that stays, is not touched; nor is one of a space around.
	m = after(t, impl.ModelNew(), "space a all -1", "space b a -1", "put a x body", "mark a x k", "drop a x", "put a y body", "put all y body", "put b z body", "close b", "step", "step")
	if got := impl.ModelBoard(m); got != "count 11\na in all -1 here 1 uses 10\n  x 1 5 going k body\n  y 2 6 here - body\nall in - -1 here 0 uses 15\n  y 3 7 here - body\n" {
		t.Errorf("%q", got)
	}
}

func TestPromise53(t *testing.T) {
	whole := 0
	for what, m := range manyModels(t) {
		if fewChangesLeft(m) {
			continue
		}
		var goes []string
		for _, s := range m.Spaces {
			if plainGoing(m, s.Name) {
				goes = append(goes, s.Name)
			}
		}
		stays := 0
		x := m
		for _, one := range m.Things {
			if !plainGoing(m, one.Space) {
				stays += impl.ThingCost(one)
				continue
			}
			for _, mark := range one.Marks {
				x = after(t, x, "unmark "+one.Space+" "+one.Name+" "+mark)
			}
		}
		x, _ = stepped(x, impl.ThingsMax+impl.SpaceMax)
		for _, name := range goes {
			if _, is := spaceOf(x.Spaces, name); is {
				t.Fatalf("%s: %s is still there", what, name)
			}
		}
		if len(x.Spaces) != len(m.Spaces)-len(goes) || unitsOf(x.Uses, "all") != stays || !impl.ModelOk(x) {
			t.Fatalf("%s: %v use %v, not %d", what, x.Spaces, x.Uses, stays)
		}
		for _, s := range x.Spaces {
			less := 0
			for _, one := range m.Things {
				if plainGoing(m, one.Space) && slices.Contains(plainUp(m.Spaces, one.Space), s.Name) {
					less += impl.ThingCost(one)
				}
			}
			if unitsOf(x.Uses, s.Name) != unitsOf(m.Uses, s.Name)-less {
				t.Fatalf("%s: %s uses %v", what, s.Name, x.Uses)
			}
		}
		if len(goes) > 0 {
			whole++
		}
	}
	if whole < 20 {
		t.Error("too few spaces went")
	}
}
