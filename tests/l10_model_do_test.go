package tests

import (
	"fmt"
	"slices"
	"strings"
	"testing"

	"loop.example/muniment/impl"
)

// The session of the document, without what happens to the disk.
func TestModelSession(t *testing.T) {
	m := impl.ModelNew()
	for i, c := range [][2]string{
		{"space a all 30", "ok 1"}, {"put a x first", "ok 2"}, {"put a y a longer body", "ok 3"}, {"put a z 12345678901234567890", "no limit a"}, {"limit a 60", "ok 4"}, {"put a z 12345678901234567890", "ok 5"},
		{"set a x 2 other", "ok 6"}, {"set a x 2 more", "no stale 6"}, {"mark a y k", "ok 7"}, {"drop a x", "ok 8"}, {"space b a 5", "ok 9"}, {"put b x body", "ok 10"}, {"put b y b", "no limit b"},
		{"watch a 3", "past 4= 5+z 6=x 7=y 8-x"}, {"close a", "ok 11"}, {"put a q z", "no going"}, {"step", "ok 12"}, {"step", "ok 13"}, {"step", "ok 14"}, {"step", "ok 15"}, {"unmark a y k", "ok 16"}, {"step", "ok 17"}, {"step", "idle"},
		{"list all", "list - uses 0"}, {"get a x", "no space"}, {"step", "idle"},
	} {
		x, said := impl.ModelDo(m, read(t, c[0]))
		if said != c[1] {
			t.Fatalf("line %d, %q: %q", i, c[0], said)
		}
		m = x
	}
	if got := impl.ModelBoard(m); got != "count 17\nall in - -1 here 0 uses 0\n" {
		t.Errorf("%q", got)
	}
}

// What is answered, and which answer comes first, if several could.
func TestModelAnswers(t *testing.T) {
	models := someModels(t)
	for model, cases := range map[string][][2]string{
		"busy": {
			{"space a all 5", "no there"}, {"space a zz 5", "no there"}, {"space all all 5", "no there"}, {"space all zz 5", "no there"}, {"space zz aa 5", "no space"}, {"space zz zz 5", "no space"}, {"space zz d 0", "ok 19"}, {"space aa all -1", "ok 19"},
			{"limit zz 5", "no space"}, {"limit all 0", "ok 19"}, {"limit a 30", "ok 19"}, {"limit b 0", "ok 19"}, {"limit b -1", "ok 19"},
			{"close zz", "no space"}, {"close all", "no all"}, {"close a", "ok 19"}, {"close b", "ok 19"},
			{"put zz x b", "no space"}, {"put zz q " + letters(40), "no space"}, {"put a x b", "no there"}, {"put a x " + letters(40), "no there"}, {"put a q " + letters(16), "no limit a"}, {"put a q " + letters(15), "ok 19"}, {"put b q " + letters(17), "no limit b"},
			{"put b q " + letters(16), "no limit a"}, {"put b q " + letters(15), "ok 19"}, {"put d q ", "ok 19"}, {"put d q b", "no limit d"}, {"put all q " + letters(40), "ok 19"},
			{"get zz x", "no space"}, {"get a q", "no thing"}, {"get all x", "no thing"}, {"get a x", "thing 1 4 here - first"}, {"get b z", "thing 3 11 going k,l bb"}, {"get c x", "thing 4 13 here k,l cc"},
			{"set zz x 0 b", "no space"}, {"set a q 0 b", "no thing"}, {"set a x 3 b", "no stale 4"}, {"set a x 5 b", "no stale 4"}, {"set a x 0 b", "no stale 4"}, {"set a x 3 " + letters(40), "no stale 4"}, {"set a x 4 " + letters(22), "no limit a"}, {"set a x 4 " + letters(21), "ok 19"},
			{"set b z 11 " + letters(20), "no limit b"}, {"set b z 11 " + letters(19), "no limit a"}, {"set b z 11 " + letters(18), "ok 19"}, {"set a x 4 first", "ok 19"}, {"set a x 4 ", "ok 19"}, {"set d x 17 dd", "ok 19"}, {"set d x 17 ddd", "no limit d"},
			{"mark zz x k", "no space"}, {"mark a q k", "no thing"}, {"mark a y k", "no there"}, {"mark a y l", "ok 19"}, {"mark a y a", "ok 19"}, {"mark b z k", "no there"}, {"mark b z m", "no going"}, {"mark d x l", "no going"}, {"mark d x k", "no there"}, {"mark c x k", "no there"}, {"mark c x m", "no room"},
			{"unmark zz x k", "no space"}, {"unmark a q k", "no thing"}, {"unmark a x k", "no mark"}, {"unmark b z m", "no mark"}, {"unmark b z k", "ok 19"}, {"unmark d x k", "ok 19"}, {"unmark a y k", "ok 19"}, {"unmark c x l", "ok 19"},
			{"drop zz x", "no space"}, {"drop a q", "no thing"}, {"drop a x", "ok 19"}, {"drop a y", "ok 19"}, {"drop b z", "no going"}, {"drop d x", "no going"},
			{"list zz", "no space"}, {"list all", "list - uses 21"}, {"list a", "list x,y uses 14"}, {"list b", "list z uses 3"}, {"list d", "list x,y uses 4"},
			{"watch a 9", "no past"}, {"watch a 10", "past"}, {"watch b 10", "past 11=z"}, {"watch d 10", "past 14+ 15+x 16=x 17=x 18+y"}, {"watch d 14", "past 15+x 16=x 17=x 18+y"}, {"watch d 18", "past"}, {"watch d 99999", "past"}, {"watch zz 10", "past"}, {"watch zz 9", "no past"}, {"step", "idle"},
		},
		"all but all to go": {
			{"space a c 5", "no there"}, {"space zz a 5", "no going"}, {"space zz b 5", "no going"}, {"space zz d 5", "no going"}, {"space zz all 5", "ok 21"}, {"space zz yy 5", "no space"},
			{"limit a 5", "ok 21"}, {"limit b 5", "ok 21"}, {"close a", "no going"}, {"close c", "no going"}, {"close b", "ok 21"}, {"close d", "ok 21"},
			{"put a x b", "no there"}, {"put a q " + letters(40), "no going"}, {"put b q b", "no going"}, {"put all q b", "ok 21"},
			{"set a x 4 b", "ok 21"}, {"set b z 11 b", "ok 21"}, {"mark a y k", "no there"}, {"mark a y l", "no going"}, {"mark a x k", "no going"}, {"mark b z m", "no going"}, {"mark c x m", "no going"}, {"mark c x k", "no there"},
			{"unmark a y k", "ok 21"}, {"unmark b z l", "ok 21"}, {"drop a y", "ok 21"}, {"drop b z", "no going"}, {"step", "ok 21"},
		},
		"as many as may be": {
			{"space a zz 5", "no there"}, {"space zz yy 5", "no space"}, {"space zz all 5", "no room"}, {"put a x b", "no there"}, {"put a q b", "no room"}, {"put a q " + letters(40), "no room"}, {"put zz q b", "no space"},
			{"set a x 4 b", "ok 20"}, {"mark a x k", "ok 20"}, {"drop a x", "ok 20"}, {"limit a 7", "ok 20"}, {"close a", "ok 20"},
		},
		"as many, some to go": {
			{"space zz d 5", "no going"}, {"space zz a 5", "no room"}, {"put d q b", "no going"}, {"put a q b", "no room"}, {"put d x b", "no there"},
		},
		"no number left": {
			{"put a q b", "no room"}, {"put a q " + letters(40), "no room"}, {"put a x b", "no there"}, {"put zz q b", "no space"}, {"space zz all 5", "ok 10"}, {"set a x 4 b", "ok 10"}, {"drop a x", "ok 10"},
		},
		"limits lowered": {
			{"put b q ", "no limit b"}, {"put a q ", "no limit a"}, {"put c q ", "no limit all"}, {"put all q ", "no limit all"}, {"set a x 4 first", "ok 13"}, {"set a x 4 other", "ok 13"}, {"set a x 4 b", "ok 13"}, {"set a x 4 ", "ok 13"}, {"set a x 4 longer", "no limit a"}, {"set b z 9 bbb", "no limit b"}, {"set b z 9 cc", "ok 13"},
			{"set b z 9 ", "ok 13"}, {"mark a x k", "ok 13"}, {"drop a x", "ok 13"}, {"limit b 1", "ok 13"}, {"limit b -1", "ok 13"}, {"space zz b 0", "ok 13"},
		},
		"just met": {
			{"put b q ", "no limit b"}, {"put a q ", "no limit a"}, {"put c q ", "ok 13"}, {"put c q b", "no limit all"}, {"set b z 9 bb", "ok 13"}, {"set b z 9 bbb", "no limit b"}, {"set a x 4 firsts", "no limit a"},
		},
		"no change left": {
			{"space zz d 0", "no room"}, {"space a all 5", "no room"}, {"limit zz 5", "no room"}, {"close all", "no room"}, {"put a x b", "no room"}, {"set a x 3 b", "no room"}, {"mark zz x k", "no room"}, {"unmark a x k", "no room"}, {"drop a q", "no room"},
			{"get a x", "no room"}, {"get zz x", "no room"}, {"list a", "no room"}, {"list zz", "no room"}, {"watch a 99999", "no room"}, {"watch a 0", "no room"}, {"step", "no room"},
		},
		"a change left": {{"space zz d 0", "no going"}, {"limit a 5", "ok 99999"}, {"put all x b", "ok 99999"}, {"step", "ok 99999"}, {"get a x", "thing 1 4 here - first"}, {"watch a 99998", "past"}},
		"new":           {{"list all", "list - uses 0"}, {"watch all 0", "past"}, {"watch all 5", "past"}, {"watch a 0", "past"}, {"close all", "no all"}, {"step", "idle"}, {"put all x b", "ok 1"}, {"limit all 5", "ok 1"}, {"space a a 5", "no space"}},
		"no past":       {{"watch a 39", "no past"}, {"watch a 40", "past"}, {"get a x", "thing 1 4 here - first"}},
		"one past":      {{"watch gone 38", "no past"}, {"watch gone 39", "past 40-x"}, {"watch gone 40", "past"}},
	} {
		for _, c := range cases {
			if _, said := impl.ModelDo(models[model], read(t, c[0])); said != c[1] {
				t.Errorf("%s, %q: %q, not %q", model, c[0], said, c[1])
			}
		}
	}
}

// What is no request changes nothing, also where nothing could be changed.
func TestModelNoRequest(t *testing.T) {
	for what, m := range someModels(t) {
		for _, r := range badReqs() {
			if x, said := impl.ModelDo(m, r); said != "no bad" || !sameModel(x, m) {
				t.Errorf("%s, %v: %q", what, r, said)
			}
		}
	}
}

func TestPromise43(t *testing.T) {
	for _, d := range allDone(t) {
		if !impl.ModelOk(d.x) {
			t.Fatalf("%s: not ok", d.text())
		}
		for place, use := range d.x.Uses {
			if units := plainUnits(d.x, use.Name); use.Name != d.x.Spaces[place].Name || use.Units != units || units != impl.UseSum(d.x.Spaces, d.x.Things, use.Name) {
				t.Fatalf("%s: %v, not %d", d.text(), use, units)
			}
		}
	}
}

func TestPromise44(t *testing.T) {
	for _, d := range allDone(t) {
		if !d.ok() {
			if !sameModel(d.m, d.x) {
				t.Fatalf("%s: the model is changed", d.text())
			}
			continue
		}
		if d.x.Rev != d.m.Rev+1 || d.said != fmt.Sprint("ok ", d.x.Rev) {
			t.Fatalf("%s: %d behind %d", d.text(), d.x.Rev, d.m.Rev)
		}
		last := d.x.Pasts[len(d.x.Pasts)-1]
		if last.Rev != d.x.Rev || last.Sign != plainSign(d, last) {
			t.Fatalf("%s: %v", d.text(), last)
		}
		all := append(slices.Clone(d.m.Pasts), last)
		if cut := max(0, len(all)-8); !slices.Equal(d.x.Pasts, all[cut:]) || d.x.Floor != d.m.Floor+cut {
			t.Fatalf("%s: %v behind %v", d.text(), d.x.Pasts, d.m.Pasts)
		}
		if d.r.Kind != impl.ReqStep && (last.Space != d.r.Space || d.r.Kind > impl.ReqClose && last.Name != d.r.Name || d.r.Kind <= impl.ReqClose && last.Name != "") {
			t.Fatalf("%s: %v", d.text(), last)
		}
	}
}

// plainSign is the sign of what is told, by whether it was there, and is there. What is told must be what is changed, and have the count.
func plainSign(d done, p impl.Past) string {
	before, was := thingOf(d.m, p.Space, p.Name)
	behind, is := thingOf(d.x, p.Space, p.Name)
	rev := behind.Rev
	if p.Name == "" {
		var a, b impl.Space
		a, was = spaceOf(d.m.Spaces, p.Space)
		b, is = spaceOf(d.x.Spaces, p.Space)
		before.Rev, rev = a.Rev, b.Rev
	}
	switch {
	case is && rev != d.x.Rev:
		return "not of this count"
	case was && is && before.Rev != rev:
		return "="
	case is && !was:
		return "+"
	case was && !is:
		return "-"
	}
	return "nothing happened"
}

// Nothing but what is told is changed: all other things and spaces are as they were.
func TestPromise44Others(t *testing.T) {
	for _, d := range allDone(t) {
		if !d.ok() {
			continue
		}
		last := d.x.Pasts[len(d.x.Pasts)-1]
		isTold := func(x impl.Thing) bool { return x.Space == last.Space && x.Name == last.Name }
		spaceTold := func(s impl.Space) bool { return s.Name == last.Space && last.Name == "" }
		before, behind := slices.DeleteFunc(slices.Clone(d.m.Things), isTold), slices.DeleteFunc(slices.Clone(d.x.Things), isTold)
		if !slices.EqualFunc(before, behind, sameThing) {
			t.Fatalf("%s: another thing is changed", d.text())
		}
		if !slices.Equal(slices.DeleteFunc(slices.Clone(d.m.Spaces), spaceTold), slices.DeleteFunc(slices.Clone(d.x.Spaces), spaceTold)) {
			t.Fatalf("%s: another space is changed", d.text())
		}
		if d.r.Kind != impl.ReqPut && d.x.Uid != d.m.Uid {
			t.Fatalf("%s: the last number is %d", d.text(), d.x.Uid)
		}
	}
}

// What becomes of a space that is asked for.
func TestModelSpaces(t *testing.T) {
	for _, d := range allDone(t) {
		s, _ := spaceOf(d.m.Spaces, d.r.Space)
		want := s
		want.Rev = d.x.Rev
		switch d.r.Kind {
		case impl.ReqSpace:
			want = impl.Space{Name: d.r.Space, Over: d.r.Name, Limit: d.r.Num, Rev: d.x.Rev}
		case impl.ReqLimit:
			want.Limit = d.r.Num
		case impl.ReqClose:
			want.Gone = true
		default:
			continue
		}
		if got, there := spaceOf(d.x.Spaces, d.r.Space); d.ok() && (!there || got != want) {
			t.Fatalf("%s: %v, not %v", d.text(), got, want)
		}
	}
}

// limitOf is the limit of a space, and whether there is such a space.
func limitOf(m impl.Model, name string) (int, bool) {
	s, there := spaceOf(m.Spaces, name)
	return s.Limit, there
}

func TestPromise45(t *testing.T) {
	above := 0
	for _, d := range allDone(t) {
		for _, s := range d.x.Spaces {
			units := unitsOf(d.x.Uses, s.Name)
			if s.Limit < 0 || units <= s.Limit {
				continue
			}
			above++
			limit, there := limitOf(d.m, s.Name)
			if !there || limit == s.Limit && unitsOf(d.m.Uses, s.Name) < units {
				t.Fatalf("%s: %s uses %d", d.text(), s.Name, units)
			}
		}
	}
	if above == 0 {
		t.Error("no space uses more than it may")
	}
}

func TestPromise46(t *testing.T) {
	seen := map[string]int{}
	for _, d := range allDone(t) {
		more := 1 + len(d.r.Text)
		if x, _ := thingOf(d.m, d.r.Space, d.r.Name); d.r.Kind == impl.ReqSet {
			more = len(d.r.Text) - len(x.Body)
		}
		over, limited := strings.CutPrefix(d.said, "no limit ")
		seen[fmt.Sprint(d.r.Kind, d.ok(), limited, more > 0)]++
		if limited && (d.r.Kind != impl.ReqPut && d.r.Kind != impl.ReqSet || more <= 0 || impl.UseMay(d.m.Spaces, d.m.Uses, d.r.Space, more) != over) {
			t.Fatalf("%s: not for the limit of %q", d.text(), over)
		}
		if d.ok() && (d.r.Kind == impl.ReqPut || d.r.Kind == impl.ReqSet && more > 0) && impl.UseMay(d.m.Spaces, d.m.Uses, d.r.Space, more) != "" {
			t.Fatalf("%s: a limit is broken", d.text())
		}
	}
	for _, what := range []string{"4 true false true", "4 false true true", "5 true false true", "5 true false false", "5 false true true"} {
		if seen[what] == 0 {
			t.Errorf("not one of %s", what)
		}
	}
}

func TestPromise47(t *testing.T) {
	for _, d := range allDone(t) {
		if d.r.Kind != impl.ReqPut || !d.ok() {
			continue
		}
		want := impl.Thing{Space: d.r.Space, Name: d.r.Name, Uid: d.m.Uid + 1, Rev: d.m.Rev + 1, Body: d.r.Text}
		if got, there := thingOf(d.x, d.r.Space, d.r.Name); !there || !sameThing(got, want) || d.x.Uid != want.Uid || len(d.x.Things) != len(d.m.Things)+1 {
			t.Fatalf("%s: %v", d.text(), got)
		}
		if d.x.Rev == impl.CountMax {
			continue
		}
		if x, said := impl.ModelDo(d.x, d.r); said != "no there" || !sameModel(x, d.x) {
			t.Fatalf("%s, and then %q", d.text(), said)
		}
	}
}

// No two things ever have one number, also if one went before the other came.
func TestPromise47Numbers(t *testing.T) {
	for _, list := range walks() {
		whose, last := map[int]string{}, 0
		for _, d := range list {
			for _, x := range d.x.Things {
				who := x.Space + "." + x.Name
				if x.Uid > last {
					last = x.Uid
					whose[last] = who
				} else if _, was := thingOf(d.m, x.Space, x.Name); !was || whose[x.Uid] != who {
					t.Fatalf("%s: %d is given again", d.text(), x.Uid)
				}
			}
		}
		if last < 10 {
			t.Errorf("only %d things came", last)
		}
	}
}

func TestPromise48(t *testing.T) {
	for _, d := range allDone(t) {
		if d.r.Kind != impl.ReqSet || !d.ok() {
			continue
		}
		want, _ := thingOf(d.m, d.r.Space, d.r.Name)
		if want.Rev != d.r.Num {
			t.Fatalf("%s: the newest is %d", d.text(), want.Rev)
		}
		want.Body, want.Rev = d.r.Text, d.x.Rev
		if got, there := thingOf(d.x, d.r.Space, d.r.Name); !there || !sameThing(got, want) {
			t.Fatalf("%s: %v", d.text(), got)
		}
		if d.x.Rev == impl.CountMax {
			continue
		}
		if x, said := impl.ModelDo(d.x, d.r); said != fmt.Sprint("no stale ", d.x.Rev) || !sameModel(x, d.x) {
			t.Fatalf("%s, and then %q", d.text(), said)
		}
	}
}

// What becomes of a thing that is asked for: its marks, and whether it is to go.
func TestModelMarks(t *testing.T) {
	for _, d := range allDone(t) {
		want, was := thingOf(d.m, d.r.Space, d.r.Name)
		gone := false
		marks := slices.Clone(want.Marks)
		switch d.r.Kind {
		case impl.ReqMark:
			want.Marks = slices.Sorted(slices.Values(append(marks, d.r.Text)))
		case impl.ReqUnmark:
			want.Marks = slices.DeleteFunc(marks, func(mark string) bool { return mark == d.r.Text })
			gone = want.Gone && len(want.Marks) == 0
		case impl.ReqDrop:
			gone = len(want.Marks) == 0
			want.Gone = true
		default:
			continue
		}
		want.Rev = d.x.Rev
		got, is := thingOf(d.x, d.r.Space, d.r.Name)
		if d.ok() && (!was || is == gone || is && !sameThing(got, want)) {
			t.Fatalf("%s: %v, not %v", d.text(), got, want)
		}
	}
}

func TestPromise49(t *testing.T) {
	kept := 0
	for _, d := range allDone(t) {
		for _, x := range d.m.Things {
			if _, is := thingOf(d.x, x.Space, x.Name); is || len(x.Marks) == 0 {
				continue
			}
			kept++
			if d.r != (impl.Req{Kind: impl.ReqUnmark, Space: x.Space, Name: x.Name, Text: x.Marks[0]}) || len(x.Marks) != 1 || !x.Gone {
				t.Fatalf("%s: %v goes", d.text(), x)
			}
		}
	}
	if kept == 0 {
		t.Error("nothing that was kept goes")
	}
}

func TestPromise50(t *testing.T) {
	for _, d := range allDone(t) {
		for _, x := range d.m.Things {
			now, is := thingOf(d.x, x.Space, x.Name)
			if !x.Gone || !is {
				continue
			}
			if !now.Gone || now.Uid != x.Uid || slices.ContainsFunc(now.Marks, func(mark string) bool { return !slices.Contains(x.Marks, mark) }) {
				t.Fatalf("%s: %v is %v", d.text(), x, now)
			}
		}
		for _, s := range d.m.Spaces {
			if now, is := spaceOf(d.x.Spaces, s.Name); s.Gone && is && !now.Gone {
				t.Fatalf("%s: %v is %v", d.text(), s, now)
			}
		}
	}
}

func TestPromise51(t *testing.T) {
	for _, d := range allDone(t) {
		for _, x := range d.x.Things {
			if _, was := thingOf(d.m, x.Space, x.Name); !was && plainGoing(d.m, x.Space) {
				t.Fatalf("%s: %v comes", d.text(), x)
			}
		}
		for _, s := range d.x.Spaces {
			if _, was := spaceOf(d.m.Spaces, s.Name); !was && plainGoing(d.m, s.Over) {
				t.Fatalf("%s: %v comes", d.text(), s)
			}
		}
		// What was there, and is to go, gets no more marks.
		if last := len(d.x.Pasts) - 1; d.r.Kind == impl.ReqMark && d.ok() && plainGoing(d.m, d.x.Pasts[last].Space) {
			t.Fatalf("%s: a mark comes", d.text())
		}
	}
}

func TestPromise55(t *testing.T) {
	for _, d := range allDone(t) {
		told := 0
		for _, name := range names(d.m, names(d.x, "aa", "zz", "gone", d.r.Space)...) {
			pasts, ok := impl.ModelWatch(d.x, name, d.m.Rev)
			if !ok {
				t.Fatalf("%s: %s is forgotten", d.text(), name)
			}
			told += len(pasts)
		}
		if told > 1 || d.ok() != (told == 1) {
			t.Fatalf("%s: %d are told", d.text(), told)
		}
	}
}
