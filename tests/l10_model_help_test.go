package tests

import (
	"fmt"
	"slices"
	"strings"
	"sync"
	"testing"

	"loop.example/muniment/impl"
)

// copyModel is a model that shares nothing with another one.
func copyModel(m impl.Model) impl.Model {
	m.Spaces, m.Uses, m.Things, m.Pasts = slices.Clone(m.Spaces), slices.Clone(m.Uses), slices.Clone(m.Things), slices.Clone(m.Pasts)
	for i := range m.Things {
		m.Things[i].Marks = slices.Clone(m.Things[i].Marks)
	}
	return m
}

// sameModel says whether two models are the same; no list is an empty one.
func sameModel(a, b impl.Model) bool {
	return a.Rev == b.Rev && a.Uid == b.Uid && a.Floor == b.Floor && slices.Equal(a.Spaces, b.Spaces) && slices.Equal(a.Uses, b.Uses) &&
		slices.EqualFunc(a.Things, b.Things, sameThing) && slices.Equal(a.Pasts, b.Pasts)
}

// noModel says whether a model is nothing.
func noModel(m impl.Model) bool {
	return sameModel(m, impl.Model{})
}

// read is the request that a text is.
func read(t *testing.T, text string) impl.Req {
	t.Helper()
	r, ok := impl.ReqRead(text)
	if !ok {
		t.Fatalf("%q is no request", text)
	}
	return r
}

// after is a model behind requests, each of which must be answered by `ok ..`.
func after(t *testing.T, m impl.Model, texts ...string) impl.Model {
	t.Helper()
	for _, text := range texts {
		x, said := impl.ModelDo(m, read(t, text))
		if !strings.HasPrefix(said, "ok ") {
			t.Fatalf("%q is answered %q", text, said)
		}
		m = x
	}
	return m
}

// late is a model, so often changed before that only so many changes are left.
func late(m impl.Model, left int) impl.Model {
	m = copyModel(m)
	more := impl.CountMax - left - m.Rev
	m.Rev, m.Floor = m.Rev+more, m.Floor+more
	for i := range m.Pasts {
		m.Pasts[i].Rev += more
	}
	return m
}

// someModels are models that are ok, by what is special of them.
func someModels(t *testing.T) map[string]impl.Model {
	t.Helper()
	start := impl.ModelNew()
	models := map[string]impl.Model{"new": start}
	base := after(t, start, "space a all 30", "space b a 20", "space c all -1", "put a x first", "put a y body", "mark a y k", "put b z bb", "mark b z l", "mark b z k")
	models["some things"] = base
	models["all limited"] = after(t, base, "limit all 14", "limit c 0")
	models["limits lowered"] = after(t, base, "limit a 7", "limit b 0", "limit all 1")
	models["just met"] = after(t, base, "limit a 14", "limit b 3", "limit all 15")
	models["dropped"] = after(t, base, "drop b z", "drop a y")
	models["forgotten"] = after(t, base, "drop a x", "put a x again", "set a x 11 more", "set a x 12 ", "put c x c")
	busy := after(t, base, "put c x cc", "drop b z", "mark c x k", "mark c x l", "space d c 5", "put d x d", "mark d x k", "drop d x", "put d y d")
	models["busy"] = busy
	models["inner one to go"] = after(t, busy, "close b")
	models["outer one to go"] = after(t, busy, "close a", "put c y y")
	models["both to go"] = after(t, busy, "close b", "close a")
	models["all but all to go"] = after(t, busy, "close c", "close a")
	models["in the middle"] = after(t, models["all but all to go"], "step", "step", "step")
	rest := models["all but all to go"]
	for range impl.ModelRest(rest) {
		rest = after(t, rest, "step")
	}
	models["waits for marks"] = rest
	models["a mark less"] = after(t, rest, "unmark b z k")
	models["empty ones to go"] = after(t, start, "space a all -1", "space b a -1", "space c b -1", "close a")
	full := after(t, base, "space d c 5", "space e d 5", "space f all 50", "put c x ", "put c xx ", "put d x ", "put e x ", "put f x "+letters(30), "put f y ", "put f z ")
	models["as many as may be"] = full
	models["as many, some to go"] = after(t, full, "close d", "close f")
	none := copyModel(base)
	none.Uid = impl.CountMax
	models["no number left"] = none
	models["no change left"] = late(busy, 0)
	models["a change left"] = late(models["all but all to go"], 1)
	models["some changes left"] = late(models["outer one to go"], 4)
	models["no past"] = impl.Model{Rev: 40, Uid: 9, Floor: 40, Spaces: busy.Spaces, Uses: busy.Uses, Things: busy.Things}
	models["one past"] = impl.Model{Rev: 40, Uid: 9, Floor: 39, Spaces: busy.Spaces, Uses: busy.Uses, Things: busy.Things, Pasts: []impl.Past{{Rev: 40, Sign: "-", Space: "gone", Name: "x"}}}
	return models
}

// names are the names of a model's spaces, and others, each once.
func names(m impl.Model, others ...string) []string {
	list := slices.Clone(others)
	for _, s := range m.Spaces {
		list = append(list, s.Name)
	}
	slices.Sort(list)
	return slices.Compact(list)
}

// asks are requests of some spaces, those of them that are there and those that are not, that fit a model, kind by kind; the first ones are not ok.
func asks(m impl.Model, names []string) [][]impl.Req {
	kinds := make([][]impl.Req, 13)
	add := func(kind int, space, name string, num int, text string) {
		kinds[kind] = append(kinds[kind], impl.Req{Kind: kind, Space: space, Name: name, Num: num, Text: text})
	}
	kinds[0] = []impl.Req{{}, {Kind: 13}, {Kind: impl.ReqStep, Num: 1}, {Kind: impl.ReqPut, Space: "a", Name: "X"}, {Kind: impl.ReqGet, Space: "a", Name: "x", Text: " "}}
	add(impl.ReqStep, "", "", 0, "")
	for _, space := range names {
		for _, over := range names {
			add(impl.ReqSpace, space, over, len(space)*3-1, "")
		}
		for _, num := range []int{-1, 0, unitsOf(m.Uses, space), 40, 90, 99} {
			add(impl.ReqLimit, space, "", max(num, -1), "")
		}
		add(impl.ReqClose, space, "", 0, "")
		add(impl.ReqList, space, "", 0, "")
		for _, num := range []int{0, m.Floor - 1, m.Floor, m.Floor + 1, m.Rev - 1, m.Rev, m.Rev + 1} {
			add(impl.ReqWatch, space, "", num, "")
		}
		for _, name := range []string{"new", "x", "y", "z"} {
			x, _ := thingOf(m, space, name)
			for _, text := range []string{"", "b", "nine byte", letters(40)} {
				add(impl.ReqPut, space, name, 0, text)
			}
			for _, text := range []string{"", x.Body, x.Body + "n", letters(40)} {
				add(impl.ReqSet, space, name, x.Rev, text)
				add(impl.ReqSet, space, name, x.Rev+1, text)
			}
			for _, text := range []string{"k", "l", "m"} {
				add(impl.ReqMark, space, name, 0, text)
				add(impl.ReqUnmark, space, name, 0, text)
			}
			add(impl.ReqDrop, space, name, 0, "")
			add(impl.ReqGet, space, name, 0, "")
		}
	}
	return kinds
}

// thingOf is a thing of a model, and whether it is there.
func thingOf(m impl.Model, space, name string) (impl.Thing, bool) {
	for _, x := range m.Things {
		if x.Space == space && x.Name == name {
			return x, true
		}
	}
	return impl.Thing{}, false
}

// done is a request that was done: the models ahead of it and behind it, and what was answered.
type done struct {
	what string
	m    impl.Model
	r    impl.Req
	x    impl.Model
	said string
}

// ok says whether something was changed, by the answer.
func (d done) ok() bool {
	return strings.HasPrefix(d.said, "ok ")
}

// text tells what was done.
func (d done) text() string {
	return fmt.Sprintf("%s, %v answered %q", d.what, d.r, d.said)
}

// walk is so many requests by chance, one behind the other, from a new model on. Some kinds come more often, so that much is there.
func walk(c *chance, what string, steps int) []done {
	kinds := []int{0, 1, 1, 1, 2, 3, 4, 4, 4, 4, 4, 4, 5, 5, 5, 6, 6, 6, 7, 7, 8, 8, 9, 10, 11, 12, 12}
	others := []string{"a", "aa", "b", "c", "d", "e", "zz"}
	var list []done
	m := impl.ModelNew()
	for range steps {
		all := asks(m, names(m, others[c.next(len(others))]))
		kind := all[kinds[c.next(len(kinds))]]
		r := kind[c.next(len(kind))]
		x, said := impl.ModelDo(m, r)
		list = append(list, done{what: what, m: m, r: r, x: x, said: said})
		m = x
	}
	return list
}

// walks are some walks.
var walks = sync.OnceValue(func() [][]done {
	var list [][]done
	for seed := range 6 {
		c := chance(100 + seed)
		list = append(list, walk(&c, fmt.Sprint("walk ", seed), 1200))
	}
	return list
})

// allOnce keeps what allDone tells, as many tests ask for it.
var allOnce struct {
	sync.Once
	list []done
}

// allDone is each request that fits one of some models, done, and all walks. Who asks does not write into it.
func allDone(t *testing.T) []done {
	t.Helper()
	allOnce.Do(func() {
		for what, m := range someModels(t) {
			for _, kind := range asks(m, names(m, "aa", "zz")) {
				for _, r := range kind {
					x, said := impl.ModelDo(m, r)
					allOnce.list = append(allOnce.list, done{what: what, m: m, r: r, x: x, said: said})
				}
			}
		}
		allOnce.list = slices.Concat(append([][]done{allOnce.list}, walks()...)...)
	})
	if len(allOnce.list) < 10000 {
		t.Fatal("too little was done")
	}
	return allOnce.list
}

// plainUnits is how much all things in a space use, told by a plain look at each.
func plainUnits(m impl.Model, space string) int {
	units := 0
	for _, x := range m.Things {
		if slices.Contains(plainUp(m.Spaces, x.Space), space) {
			units += 1 + len(x.Body)
		}
	}
	return units
}

// plainGoing says whether a space, or one that it is in, is to go, told by a plain look at each.
func plainGoing(m impl.Model, space string) bool {
	for _, name := range plainUp(m.Spaces, space) {
		if s, _ := spaceOf(m.Spaces, name); s.Gone {
			return true
		}
	}
	return false
}

// badModels are models that are not ok, by what is bad of them.
func badModels(t *testing.T) map[string]impl.Model {
	t.Helper()
	good := someModels(t)["busy"]
	bad := map[string]impl.Model{"nothing": {}}
	spoil := func(what string, do func(m *impl.Model)) {
		m := copyModel(good)
		do(&m)
		bad[what] = m
	}
	for what, num := range map[string]int{"below": -1, "too great": impl.CountMax + 1} {
		spoil("uid "+what, func(m *impl.Model) { m.Uid = num })
		spoil("floor "+what, func(m *impl.Model) { m.Floor = num })
		spoil("units "+what, func(m *impl.Model) { m.Uses[1].Units = num })
		spoil("rev of a thing "+what, func(m *impl.Model) { m.Things[0].Rev = num })
		spoil("uid of a thing "+what, func(m *impl.Model) { m.Things[0].Uid = num })
	}
	spoil("a limit below", func(m *impl.Model) { m.Spaces[1].Limit = -2 })
	spoil("a limit too great", func(m *impl.Model) { m.Spaces[1].Limit = impl.CountMax + 1 })
	spoil("rev too great", func(m *impl.Model) { *m = late(*m, -1) })
	spoil("rev and floor below", func(m *impl.Model) { *m = impl.ModelNew(); m.Rev, m.Floor = -1, -1 })
	spoil("floor below, and a past for it", func(m *impl.Model) {
		*m = impl.ModelNew()
		m.Floor, m.Pasts = -1, []impl.Past{{Rev: 0, Sign: "+", Space: "a"}}
	})
	spoil("rev one more", func(m *impl.Model) { m.Rev++ })
	spoil("floor above rev", func(m *impl.Model) { *m = impl.ModelNew(); m.Floor = 1 })
	spoil("floor one more", func(m *impl.Model) { m.Floor++ })
	spoil("floor one less", func(m *impl.Model) { m.Floor-- })
	spoil("no spaces", func(m *impl.Model) { m.Spaces = nil })
	spoil("nothing but numbers", func(m *impl.Model) { *m = impl.Model{Rev: 3, Floor: 3} })
	spoil("spaces in another order", func(m *impl.Model) { m.Spaces[0], m.Spaces[1] = m.Spaces[1], m.Spaces[0] })
	spoil("spaces and uses in another order", func(m *impl.Model) {
		m.Spaces[0], m.Spaces[1], m.Uses[0], m.Uses[1] = m.Spaces[1], m.Spaces[0], m.Uses[1], m.Uses[0]
	})
	spoil("a round", func(m *impl.Model) { m.Spaces[0].Over = "b" })
	spoil("a newer space", func(m *impl.Model) { m.Spaces[2].Rev = m.Rev + 1 })
	spoil("all is newer", func(m *impl.Model) { m.Spaces[1].Rev = m.Rev + 1 })
	spoil("no uses", func(m *impl.Model) { m.Uses = nil })
	spoil("one use less", func(m *impl.Model) { m.Uses = m.Uses[:4] })
	spoil("one use more", func(m *impl.Model) { m.Uses = append(m.Uses, impl.Use{Name: "zz"}) })
	spoil("a use of another", func(m *impl.Model) { m.Uses[4].Name = "dd" })
	for place := range good.Uses {
		spoil(fmt.Sprint("used more: ", place), func(m *impl.Model) { m.Uses[place].Units++ })
		spoil(fmt.Sprint("used less: ", place), func(m *impl.Model) { m.Uses[place].Units-- })
	}
	for what, x := range badThings() {
		spoil("a thing: "+what, func(m *impl.Model) { m.Things = []impl.Thing{x}; m.Uses = freeUses(*m) })
		spoil("a thing that uses nothing: "+what, func(m *impl.Model) {
			m.Things = []impl.Thing{x}
			for i := range m.Uses {
				m.Uses[i].Units = 0
			}
		})
	}
	spoil("eleven things", func(m *impl.Model) {
		m.Uid, m.Things = 50, nil
		for i := range 11 {
			m.Things = append(m.Things, thing("x"+string(rune('a'+i)), 1+i, 1, ""))
		}
		m.Uses = freeUses(*m)
	})
	spoil("a thing in no space", func(m *impl.Model) {
		m.Things = []impl.Thing{{Space: "zz", Name: "x", Uid: 1, Rev: 1}}
		m.Uses = freeUses(*m)
	})
	spoil("a newer thing", func(m *impl.Model) { m.Things[3].Rev = m.Rev + 1 })
	spoil("a greater uid", func(m *impl.Model) { m.Things[3].Uid = m.Uid + 1 })
	spoil("one uid twice", func(m *impl.Model) { m.Things[0].Uid = m.Things[4].Uid })
	spoil("one uid twice, side by side", func(m *impl.Model) { m.Things[0].Uid = m.Things[1].Uid })
	spoil("a thing twice", func(m *impl.Model) {
		m.Things = []impl.Thing{thing("x", 1, 1, "b"), thing("x", 2, 1, "b")}
		m.Uses = freeUses(*m)
	})
	spoil("names descend", func(m *impl.Model) {
		m.Things = []impl.Thing{thing("y", 1, 1, "b"), thing("x", 2, 1, "b")}
		m.Uses = freeUses(*m)
	})
	spoil("spaces of things descend", func(m *impl.Model) {
		m.Things = []impl.Thing{{Space: "b", Name: "x", Uid: 1, Rev: 1}, {Space: "a", Name: "y", Uid: 2, Rev: 1}}
		m.Uses = freeUses(*m)
	})
	spoil("no past", func(m *impl.Model) { m.Pasts = nil })
	spoil("one past less", func(m *impl.Model) { m.Pasts = m.Pasts[1:] })
	spoil("the last past less", func(m *impl.Model) { m.Pasts = m.Pasts[:7] })
	spoil("nine", func(m *impl.Model) {
		m.Floor--
		m.Pasts = append([]impl.Past{{Rev: m.Floor + 1, Sign: "+", Space: "a"}}, m.Pasts...)
	})
	spoil("one past twice", func(m *impl.Model) { m.Pasts[3] = m.Pasts[2] })
	spoil("a past of another count", func(m *impl.Model) { m.Pasts[7].Rev++ })
	spoil("pasts in another order", func(m *impl.Model) { m.Pasts[3], m.Pasts[2] = m.Pasts[2], m.Pasts[3] })
	for _, sign := range []string{"", " ", "*", "++", "+ ", "=-"} {
		spoil(fmt.Sprintf("the sign %q", sign), func(m *impl.Model) { m.Pasts[7].Sign = sign })
	}
	for _, name := range []string{"-", "A", "abcdefg", " ", "a b"} {
		spoil(fmt.Sprintf("a past of the space %q", name), func(m *impl.Model) { m.Pasts[0].Space = name })
		spoil(fmt.Sprintf("a past of the name %q", name), func(m *impl.Model) { m.Pasts[7].Name = name })
	}
	spoil("a past of no space", func(m *impl.Model) { m.Pasts[7].Space = "" })
	spoil("many of all", func(m *impl.Model) {
		m.Spaces, m.Uses, m.Things, m.Pasts = make([]impl.Space, 5000), make([]impl.Use, 5000), make([]impl.Thing, 5000), make([]impl.Past, 5000)
	})
	return bad
}

// badStepModels are models that are not ok, but of which something is to go.
func badStepModels(t *testing.T) []impl.Model {
	t.Helper()
	var bad []impl.Model
	for _, what := range []string{"all but all to go", "empty ones to go"} {
		for _, do := range []func(m *impl.Model){func(m *impl.Model) { m.Uid = -1 }, func(m *impl.Model) { m.Uses[0].Units++ }, func(m *impl.Model) { m.Pasts[0].Sign = "*" }, func(m *impl.Model) { m.Spaces[1].Rev = m.Rev + 1 }} {
			m := copyModel(someModels(t)[what])
			do(&m)
			bad = append(bad, m)
		}
	}
	return bad
}

// freeUses is what each space of a model uses, told by a plain look at each.
func freeUses(m impl.Model) []impl.Use {
	var uses []impl.Use
	for _, s := range m.Spaces {
		uses = append(uses, impl.Use{Name: s.Name, Units: plainUnits(m, s.Name)})
	}
	return uses
}
