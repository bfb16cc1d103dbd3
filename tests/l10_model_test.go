package tests

import (
	"fmt"
	"math"
	"slices"
	"strings"
	"testing"

	"loop.example/muniment/impl"
)

func TestPromise62(t *testing.T) {
	m := impl.ModelNew()
	if !impl.ModelOk(m) || !sameModel(m, impl.Model{Spaces: []impl.Space{space("all", "", -1)}, Uses: []impl.Use{{Name: "all"}}}) {
		t.Errorf("%v", m)
	}
	if impl.ModelRest(m) != 0 {
		t.Error("something is left to be done")
	}
	for _, kind := range asks(m, names(m, "a", "zz")) {
		for _, r := range kind {
			if x, said := impl.ModelDo(m, r); !impl.ModelOk(x) || said == "" {
				t.Errorf("%v: %q, %v", r, said, x)
			}
		}
	}
	m.Spaces[0].Name, m.Uses[0].Units = "mine", 7
	if !impl.ModelOk(impl.ModelNew()) {
		t.Error("two new models share memory")
	}
}

func TestModelOk(t *testing.T) {
	for what, m := range someModels(t) {
		if !impl.ModelOk(m) {
			t.Errorf("%s: not ok", what)
		}
	}
	x, past := thing("x", 5, 9, "b"), impl.Past{Rev: 1, Sign: "=", Space: "gone"}
	for what, m := range map[string]impl.Model{
		"as great as may be": {Rev: impl.CountMax, Uid: impl.CountMax, Floor: impl.CountMax, Spaces: []impl.Space{{Name: "all", Limit: impl.CountMax, Rev: impl.CountMax}}, Uses: []impl.Use{{Name: "all"}}},
		"the newest of all":  {Rev: 9, Uid: 5, Floor: 9, Spaces: []impl.Space{{Name: "a", Over: "all", Rev: 9}, space("all", "", 0)}, Uses: []impl.Use{{Name: "a", Units: 2}, {Name: "all", Units: 2}}, Things: []impl.Thing{x}},
		"a past of no space": {Rev: 1, Spaces: []impl.Space{space("all", "", -1)}, Uses: []impl.Use{{Name: "all"}}, Pasts: []impl.Past{past}},
	} {
		if !impl.ModelOk(m) {
			t.Errorf("%s: not ok", what)
		}
	}
	for what, m := range badModels(t) {
		mustPanicNot(t, what, func() {
			if impl.ModelOk(m) {
				t.Errorf("%s: ok", what)
			}
		})
	}
}

// Of models that are not ok there is nothing.
func TestModelBad(t *testing.T) {
	good := someModels(t)["busy"]
	for what, m := range badModels(t) {
		mustPanicNot(t, what, func() {
			for _, text := range []string{"step", "get a x", "list a", "watch a 99", "put a new b", "drop c y", "close a"} {
				if x, said := impl.ModelDo(m, read(t, text)); said != "" || !noModel(x) {
					t.Errorf("%s: %q is answered %q", what, text, said)
				}
			}
			if x, said := impl.ModelDo(m, impl.Req{}); said != "" || !noModel(x) {
				t.Errorf("%s: what is no request is answered %q", what, said)
			}
			pasts, ok := impl.ModelWatch(m, "a", m.Floor)
			if len(pasts) != 0 || ok || len(impl.ModelList(m, "a")) != 0 || impl.ModelRest(m) != 0 || impl.ModelBoard(m) != "" {
				t.Errorf("%s: something is told", what)
			}
			if len(impl.ModelPairs(m)) != 0 || len(impl.ModelDiff(m, m)) != 0 || len(impl.ModelDiff(m, good)) != 0 || len(impl.ModelDiff(good, m)) != 0 {
				t.Errorf("%s: there are pairs", what)
			}
		})
	}
}

func TestModelBadSteps(t *testing.T) {
	for i, m := range badStepModels(t) {
		if x, said := impl.ModelDo(m, impl.Req{Kind: impl.ReqStep}); impl.ModelRest(m) != 0 || said != "" || !noModel(x) {
			t.Errorf("case %d: %d are left, %q", i, impl.ModelRest(m), said)
		}
	}
}

// samePairs says whether two lists have the same ops; no list is an empty one.
func samePairs(a, b []impl.Op) bool {
	return slices.Equal(a, b)
}

func TestPromise56(t *testing.T) {
	check := func(what string, m impl.Model) {
		list := impl.ModelPairs(m)
		if x, ok := impl.ModelLoad(list); !ok || !sameModel(x, m) {
			t.Errorf("%s: read %v", what, x)
		}
	}
	for what, m := range someModels(t) {
		check(what, m)
	}
	for _, d := range allDone(t) {
		check(d.text(), d.x)
	}
}

// spoiltPairs are lists that are like another one, but for something.
func spoiltPairs(list []impl.Op) [][]impl.Op {
	var spoilt [][]impl.Op
	with := func(place int, op impl.Op) {
		other := slices.Clone(list)
		other[place] = op
		spoilt = append(spoilt, other)
	}
	for place, op := range list {
		spoilt = append(spoilt, slices.Delete(slices.Clone(list), place, place+1), slices.Insert(slices.Clone(list), place, op), list[:place])
		if place > 0 {
			other := slices.Clone(list)
			other[place-1], other[place] = other[place], other[place-1]
			spoilt = append(spoilt, other)
		}
		for _, more := range []impl.Op{put("x", ""), put("", ""), put("m", "0 0 0"), put("p.00000000", "+ a -"), put("s.a", ""), put("t.a.x", "1 1 here - "), put("u.a", "0"), drop("t.a.x")} {
			spoilt = append(spoilt, slices.Insert(slices.Clone(list), place, more))
		}
		with(place, impl.Op{Key: op.Key, Dead: true, Value: op.Value})
		with(place, drop(op.Key))
		for _, value := range changed(op.Value) {
			with(place, put(op.Key, value))
		}
		for _, key := range changed(op.Key) {
			with(place, put(key, op.Value))
		}
	}
	return append(spoilt, append(slices.Clone(list), put("v", "")), slices.Concat(list, list))
}

func TestPromise56Changed(t *testing.T) {
	for _, what := range []string{"new", "forgotten", "busy", "both to go"} {
		read := 0
		for _, list := range spoiltPairs(impl.ModelPairs(someModels(t)[what])) {
			m, ok := impl.ModelLoad(list)
			if ok && (!impl.ModelOk(m) || !samePairs(impl.ModelPairs(m), list)) || !ok && !noModel(m) {
				t.Fatalf("%s: %v is read as %v", what, list, m)
			}
			if ok {
				read++
			}
		}
		if read == 0 {
			t.Errorf("%s: not one of these can be read", what)
		}
	}
}

func TestPromise56Bad(t *testing.T) {
	bad := map[string][]impl.Op{
		"none": nil,
		"many": make([]impl.Op, 5000),
	}
	list := impl.ModelPairs(impl.ModelNew())
	for _, op := range []impl.Op{drop("m"), put("m", ""), put("m", "0 0"), put("m", "0 0 0 0"), put("m", "0 0 0 "), put("m", "00 0 0"), put("m", "0 00 0"), put("m", "0 0 -0"), put("m", "1 0 0"), put("m", "0 0 1"), put("m", "100000 0 100000"), put("m", "x 0 0"), put("M", "0 0 0"), put("m.", "0 0 0")} {
		bad[fmt.Sprint("first: ", op)] = []impl.Op{op, list[1], list[2]}
	}
	for _, op := range []impl.Op{put("s.all", "- -1 going 0"), put("s.all", "- -1 here 1"), put("s.all", "- -2 here 0"), put("s.all", ""), put("s.a", "all -1 here 0"), drop("s.all"), put("all", "- -1 here 0")} {
		bad[fmt.Sprint("second: ", op)] = []impl.Op{list[0], op, list[2]}
	}
	for _, op := range []impl.Op{put("u.all", "1"), put("u.all", ""), put("u.all", "00"), put("u.all", "-0"), put("u.all", "x"), put("u.a", "0"), put("u.", "0"), put("all", "0"), drop("u.all")} {
		bad[fmt.Sprint("third: ", op)] = []impl.Op{list[0], list[1], op}
	}
	past := func(key, value string) []impl.Op {
		return []impl.Op{put("m", "1 0 0"), put(key, value), list[1], list[2]}
	}
	if _, ok := impl.ModelLoad(past("p.00000001", "+ a -")); !ok {
		t.Error("a past is not read")
	}
	for _, key := range []string{"p.1", "p.0000001", "p.000000001", "p.00000002", "p.00000000", "p.+0000001", "p.", "p.0000000x", "p.00000001 ", "P.00000001", "q.00000001"} {
		bad[key] = past(key, "+ a -")
	}
	for _, value := range []string{"", "+ a", "+ a ", "+ a - -", "+  -", "+ a x y", "* a -", " a -", "+ - x", "+ A -", "+ a X", "+ abcdefg -", "+a -", "++ a -", "+ a abcdefg"} {
		bad["a past of "+value] = past("p.00000001", value)
	}
	for what, list := range bad {
		mustPanicNot(t, what, func() {
			if m, ok := impl.ModelLoad(list); ok || !noModel(m) {
				t.Errorf("%s: read as %v", what, m)
			}
		})
	}
}

func TestPromise57(t *testing.T) {
	check := func(what string, m impl.Model) {
		ahead := ""
		for _, op := range impl.ModelPairs(m) {
			if op.Key <= ahead || len(op.Key) > impl.KeyMax || len(op.Value) > impl.ValueMax || op.Dead {
				t.Errorf("%s: %v behind %q", what, op, ahead)
			}
			if !impl.EntriesOk([]impl.Entry{{Key: op.Key, Seq: 1, Value: op.Value}}) {
				t.Errorf("%s: %v cannot be kept", what, op)
			}
			ahead = op.Key
		}
	}
	for what, m := range someModels(t) {
		check(what, m)
	}
	for _, d := range allDone(t) {
		check(d.text(), d.x)
	}
	long := impl.Thing{Space: "abcdef", Name: "abcdef", Uid: impl.CountMax, Rev: impl.CountMax, Gone: true, Marks: []string{"abcdef", "abcdeg"}, Body: letters(40)}
	check("as long as may be", impl.Model{
		Rev: impl.CountMax, Uid: impl.CountMax, Floor: impl.CountMax - 1, Things: []impl.Thing{long},
		Spaces: []impl.Space{{Name: "abcdef", Over: "all", Limit: impl.CountMax, Gone: true, Rev: impl.CountMax}, {Name: "all", Limit: impl.CountMax, Rev: impl.CountMax}},
		Uses:   []impl.Use{{Name: "abcdef", Units: 41}, {Name: "all", Units: 41}}, Pasts: []impl.Past{{Rev: impl.CountMax, Sign: "=", Space: "abcdef", Name: "abcdef"}},
	})
}

func TestPromise57Form(t *testing.T) {
	want := []impl.Op{
		put("m", "12 3 4"),
		put("p.00000005", "+ a y"), put("p.00000006", "= a y"), put("p.00000007", "+ b z"), put("p.00000008", "= b z"), put("p.00000009", "= b z"), put("p.00000010", "= b z"), put("p.00000011", "= a -"), put("p.00000012", "- a x"),
		put("s.a", "all 30 going 11"), put("s.all", "- -1 here 0"), put("s.b", "a 20 here 2"), put("s.c", "all -1 here 3"),
		put("t.a.y", "2 6 here k body"), put("t.b.z", "3 10 going k,l bb"),
		put("u.a", "8"), put("u.all", "8"), put("u.b", "3"), put("u.c", "0"),
	}
	if got := impl.ModelPairs(after(t, someModels(t)["some things"], "drop b z", "close a", "step")); !samePairs(got, want) {
		t.Errorf("%v", got)
	}
	if got := impl.ModelPairs(impl.ModelNew()); !samePairs(got, []impl.Op{put("m", "0 0 0"), put("s.all", "- -1 here 0"), put("u.all", "0")}) {
		t.Errorf("%v", got)
	}
}

// afterOps is pairs, with ops done to them.
func afterOps(pairs, ops []impl.Op) []impl.Op {
	values := map[string]string{}
	for _, op := range slices.Concat(pairs, ops) {
		if op.Dead {
			delete(values, op.Key)
		} else {
			values[op.Key] = op.Value
		}
	}
	var list []impl.Op
	for key, value := range values {
		list = append(list, put(key, value))
	}
	slices.SortFunc(list, func(a, b impl.Op) int { return strings.Compare(a.Key, b.Key) })
	return list
}

func TestPromise58(t *testing.T) {
	models := someModels(t)
	for first, a := range models {
		for second, b := range models {
			diff := impl.ModelDiff(a, b)
			if got := afterOps(impl.ModelPairs(a), diff); !samePairs(got, impl.ModelPairs(b)) {
				t.Errorf("%s, then %s: %v makes %v", first, second, diff, got)
			}
			if (len(diff) == 0) != (first == second) {
				t.Errorf("%s, then %s: %v", first, second, diff)
			}
		}
	}
}

// First what goes, then what comes, each in order; nothing that stays.
func TestPromise58Form(t *testing.T) {
	models := someModels(t)
	for first, a := range models {
		for second, b := range models {
			var gone, come []impl.Op
			for _, op := range impl.ModelPairs(a) {
				if !slices.ContainsFunc(impl.ModelPairs(b), func(other impl.Op) bool { return other.Key == op.Key }) {
					gone = append(gone, drop(op.Key))
				}
			}
			for _, op := range impl.ModelPairs(b) {
				if !slices.Contains(impl.ModelPairs(a), op) {
					come = append(come, op)
				}
			}
			if got := impl.ModelDiff(a, b); !samePairs(got, append(gone, come...)) {
				t.Fatalf("%s, then %s: %v", first, second, got)
			}
		}
	}
	m := after(t, models["some things"], "drop a x")
	want := []impl.Op{drop("p.00000002"), drop("t.a.x"), put("m", "10 3 2"), put("p.00000010", "- a x"), put("u.a", "8"), put("u.all", "8")}
	if got := impl.ModelDiff(models["some things"], m); !samePairs(got, want) {
		t.Errorf("%v", got)
	}
}

func TestPromise59(t *testing.T) {
	for _, d := range allDone(t) {
		if diff := impl.ModelDiff(d.m, d.x); len(diff) > impl.BatchMax || d.ok() != (len(diff) > 0) {
			t.Errorf("%s: %v", d.text(), diff)
		}
	}
}

// As much changes as can at once: all spaces around one use more, and something is forgotten.
func TestPromise59Deep(t *testing.T) {
	m := after(t, impl.ModelNew(), "space a all 99", "space b a 99", "space c b 99", "space d c 99", "space e d 99", "space f e 99", "limit f -1", "limit f 50")
	x, said := impl.ModelDo(m, read(t, "put f x body"))
	if diff := impl.ModelDiff(m, x); said != "ok 9" || len(diff) != 11 {
		t.Errorf("%q: %v", said, diff)
	}
}

func TestPromise60(t *testing.T) {
	check := func(what string, m impl.Model, name string) {
		var want []string
		for _, x := range m.Things {
			if x.Space == name {
				want = append(want, x.Name)
			}
		}
		if got := impl.ModelList(m, name); !sameTexts(got, want) || !slices.IsSorted(got) {
			t.Errorf("%s, %q: %v", what, name, got)
		}
	}
	for what, m := range someModels(t) {
		for _, name := range names(m, "", "A", "al", "alla", "zz") {
			check(what, m, name)
		}
	}
	for _, list := range walks() {
		for _, d := range list {
			check(d.text(), d.x, d.r.Space)
		}
	}
	busy := someModels(t)["busy"]
	for name, want := range map[string]string{"a": "[x y]", "all": "[]", "b": "[z]", "c": "[x]", "d": "[x y]", "zz": "[]"} {
		if got := fmt.Sprint(impl.ModelList(busy, name)); got != want {
			t.Errorf("%q: %s", name, got)
		}
	}
}

func TestPromise61(t *testing.T) {
	for what, m := range someModels(t) {
		board := impl.ModelBoard(m)
		if strings.Count(board, "\n") != 1+len(m.Spaces)+len(m.Things) || !strings.HasSuffix(board, "\n") || strings.Count(board, "\n  ") != len(m.Things) {
			t.Errorf("%s: %q", what, board)
		}
		if !strings.HasPrefix(board, fmt.Sprintf("count %d\n", m.Rev)) {
			t.Errorf("%s: %q", what, board)
		}
		for place, s := range m.Spaces {
			line := fmt.Sprintf("\n%s in %s uses %d\n", s.Name, impl.SpaceWrite(s), m.Uses[place].Units)
			for _, x := range m.Things {
				if x.Space == s.Name {
					line += fmt.Sprintf("  %s %s\n", x.Name, impl.ThingWrite(x))
				}
			}
			if !strings.Contains(board, line) {
				t.Errorf("%s: no %q in %q", what, line, board)
			}
		}
	}
	for what, want := range map[string]string{
		"new":           "count 0\nall in - -1 here 0 uses 0\n",
		"dropped":       "count 11\na in all 30 here 1 uses 14\n  x 1 4 here - first\n  y 2 11 going k body\nall in - -1 here 0 uses 14\nb in a 20 here 2 uses 3\n  z 3 10 going k,l bb\nc in all -1 here 3 uses 0\n",
		"all limited":   "count 11\na in all 30 here 1 uses 14\n  x 1 4 here - first\n  y 2 6 here k body\nall in - 14 here 10 uses 14\nb in a 20 here 2 uses 3\n  z 3 9 here k,l bb\nc in all 0 here 11 uses 0\n",
		"a change left": "count 99998\na in all 30 going 20 uses 14\n  x 1 4 here - first\n  y 2 6 here k body\nall in - -1 here 0 uses 21\nb in a 20 here 2 uses 3\n  z 3 11 going k,l bb\nc in all -1 going 19 uses 7\n  x 4 13 here k,l cc\nd in c 5 here 14 uses 4\n  x 5 17 going k d\n  y 6 18 here - d\n",
	} {
		if got := impl.ModelBoard(someModels(t)[what]); got != want {
			t.Errorf("%s: %q", what, got)
		}
	}
}

// What is answered shares no memory with what was asked, and what was asked stays, with the room behind its end.
func TestModelMemory(t *testing.T) {
	good := someModels(t)["waits for marks"]
	m := copyModel(good)
	spaces, uses := append(m.Spaces, impl.Space{Name: "behind"}), append(m.Uses, impl.Use{Name: "behind"})
	things, pasts := append(m.Things, impl.Thing{Name: "behind"}), append(m.Pasts, impl.Past{Rev: 77})
	marks := []string{"k", "l", "behind"}
	m.Spaces, m.Uses, m.Things, m.Pasts = spaces[:len(m.Spaces):len(spaces)], uses[:len(m.Uses):len(uses)], things[:len(m.Things):len(things)], pasts[:8:9]
	for i := range m.Things {
		m.Things[i].Marks = append(make([]string, 0, 4), m.Things[i].Marks...)
		if len(m.Things[i].Marks) == 2 {
			m.Things[i].Marks = marks[:2:3]
		}
	}
	list := append(impl.ModelPairs(good), drop("behind"))
	pairs := list[: len(list)-1 : len(list)]
	spoil := func(x impl.Model) {
		for _, one := range x.Things {
			all := one.Marks[:cap(one.Marks)]
			for i := range all {
				all[i] = "spoilt"
			}
		}
		clearAll(x.Spaces)
		clearAll(x.Uses)
		clearAll(x.Things)
		clearAll(x.Pasts)
	}
	check := func(what string) {
		t.Helper()
		if !sameModel(m, good) || spaces[len(spaces)-1].Name != "behind" || uses[len(uses)-1].Name != "behind" || things[len(things)-1].Name != "behind" || pasts[8].Rev != 77 || !slices.Equal(marks, []string{"k", "l", "behind"}) {
			t.Fatalf("%s: an argument is changed", what)
		}
		if !samePairs(list, append(impl.ModelPairs(good), drop("behind"))) {
			t.Fatalf("%s: the pairs are changed", what)
		}
	}
	for _, kind := range asks(m, names(m, "aa", "zz")) {
		for _, r := range kind {
			x, said := impl.ModelDo(m, r)
			check(said)
			spoil(x)
			check(said)
		}
	}
	x, _ := impl.ModelLoad(pairs)
	spoil(x)
	clearAll(impl.ModelPairs(m))
	clearAll(impl.ModelDiff(m, impl.ModelNew()))
	clearAll(impl.ModelDiff(impl.ModelNew(), m))
	clearAll(impl.ModelList(m, "a"))
	seen, _ := impl.ModelWatch(m, "a", m.Floor)
	clearAll(seen)
	impl.ModelRest(m)
	impl.ModelBoard(m)
	check("a look")
}

// clearAll clears a list, and the room behind its end.
func clearAll[T any](list []T) {
	clear(list[:cap(list)])
}

// The lists of one answer share no memory with one another.
func TestModelMemoryMarks(t *testing.T) {
	m, _ := impl.ModelDo(someModels(t)["waits for marks"], read(t, "list a"))
	for i := range m.Things {
		for k := range m.Things[i].Marks {
			m.Things[i].Marks[k] += string(rune('a' + i))
		}
		_ = append(m.Things[i].Marks, "spoilt")
	}
	if !impl.ModelOk(m) || m.Things[0].Marks[0] != "ka" {
		t.Errorf("%v", m.Things)
	}
}

func TestPromise54(t *testing.T) {
	for what, m := range someModels(t) {
		for _, name := range names(m, "gone", "zz", "", "A") {
			for _, since := range []int{math.MinInt, -1, 0, m.Floor - 1, m.Floor, m.Floor + 1, m.Floor + 4, m.Rev - 1, m.Rev, m.Rev + 1, math.MaxInt} {
				var want []impl.Past
				for _, p := range m.Pasts {
					if p.Space == name && p.Rev > since && since >= m.Floor {
						want = append(want, p)
					}
				}
				got, ok := impl.ModelWatch(m, name, since)
				if !slices.Equal(got, want) || ok != (since >= m.Floor) {
					t.Errorf("%s, %q since %d: %v, %v", what, name, since, got, ok)
				}
				if len(got) > 0 {
					if rest, ok := impl.ModelWatch(m, name, got[0].Rev); !ok || !slices.Equal(rest, got[1:]) {
						t.Errorf("%s, %q since %d: the rest is %v", what, name, got[0].Rev, rest)
					}
				}
			}
		}
	}
}

// Who looks now and then knows all that happened, or that something is forgotten.
func TestPromise54Walks(t *testing.T) {
	for _, list := range walks() {
		known, since, forgotten := map[string][]impl.Past{}, map[string]int{}, map[string]bool{}
		happened := map[string][]impl.Past{}
		for step, d := range list {
			if d.ok() {
				p := d.x.Pasts[len(d.x.Pasts)-1]
				happened[p.Space] = append(happened[p.Space], p)
			}
			for i, name := range []string{"a", "aa", "all", "b", "zz"} {
				if step%(3+8*i) != 0 || forgotten[name] {
					continue
				}
				news, ok := impl.ModelWatch(d.x, name, since[name])
				if forgotten[name] = !ok; ok {
					known[name], since[name] = append(known[name], news...), d.x.Rev
					if !slices.Equal(known[name], happened[name]) {
						t.Fatalf("%s: %v of %v", name, known[name], happened[name])
					}
				} else if d.x.Rev-since[name] <= impl.PastMax {
					t.Errorf("%s: forgotten from %d on at %d", name, since[name], d.x.Rev)
				}
			}
		}
	}
}

// What is forgotten: each change but the last PastMax, and no sooner.
func TestPromise54Forgotten(t *testing.T) {
	m := impl.ModelNew()
	for n := 1; n <= 30; n++ {
		m = after(t, m, "limit all "+fmt.Sprint(n))
		if m.Floor != max(0, n-8) || len(m.Pasts) != min(n, 8) || m.Pasts[0].Rev != m.Floor+1 {
			t.Errorf("%d changes: %v behind %d", n, m.Pasts, m.Floor)
		}
		for since := range n + 2 {
			want := "no past"
			if since >= m.Floor {
				want = "past"
				for rev := since + 1; rev <= n; rev++ {
					want += fmt.Sprintf(" %d=", rev)
				}
			}
			if _, said := impl.ModelDo(m, impl.Req{Kind: impl.ReqWatch, Space: "all", Num: since}); said != want {
				t.Errorf("%d changes, since %d: %q, not %q", n, since, said, want)
			}
		}
	}
}
