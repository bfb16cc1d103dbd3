package tests

import (
	"fmt"
	"math"
	"slices"
	"strings"
	"testing"

	"loop.example/muniment/impl"
)

// space is a space that is not to go.
func space(name, over string, limit int) impl.Space {
	return impl.Space{Name: name, Over: over, Limit: limit}
}

// closed is a space that is to go.
func closed(s impl.Space) impl.Space {
	s.Gone = true
	return s
}

// someSpaces are spaces that are ok, by what is special of them.
func someSpaces() map[string][]impl.Space {
	return map[string][]impl.Space{
		"all alone":       {space("all", "", -1)},
		"all limited":     {{Name: "all", Limit: 9, Rev: 3}},
		"a row":           {space("a", "all", 9), space("all", "", -1), closed(space("b", "a", 3)), space("c", "b", -1)},
		"a row backwards": {space("a", "b", 0), space("all", "", 20), space("b", "c", 5), space("c", "d", 4), closed(space("d", "e", -1)), space("e", "f", 7), space("f", "all", 99999)},
		"a star":          {space("a", "all", 1), closed(space("aa", "all", 2)), space("all", "", 30), space("alla", "all", 3), space("b", "all", 4), space("zzzzzz", "all", 5)},
		"a tree":          {space("a", "all", 30), space("all", "", 50), closed(space("b", "a", -1)), space("c", "a", 8), space("d", "c", 8), closed(space("e", "c", 20)), space("f", "e", 6)},
		"ahead of all":    {space("a", "b", -1), {Name: "aa", Over: "a", Limit: 3, Gone: true, Rev: 9}, space("all", "", -1), space("b", "all", 0)},
		"limits met":      {space("a", "all", 5), space("all", "", 5), space("b", "a", 5)},
	}
}

// badSpaces are spaces that are not ok, by what is bad of them.
func badSpaces() map[string][]impl.Space {
	all := space("all", "", -1)
	bad := map[string][]impl.Space{
		"none":                {},
		"without all":         {space("a", "all", -1)},
		"in one not there":    {space("a", "b", -1), all},
		"in itself":           {space("a", "a", -1), all},
		"in one another":      {space("a", "b", -1), all, space("b", "a", -1)},
		"a round of three":    {space("a", "c", -1), all, space("b", "a", -1), space("c", "b", -1)},
		"in a round":          {space("a", "b", -1), all, space("b", "c", -1), space("c", "b", -1)},
		"all in another":      {space("a", "all", -1), space("all", "a", -1)},
		"all in itself":       {space("all", "all", -1)},
		"all is gone":         {closed(all)},
		"in nothing":          {space("a", "", -1), all},
		"nothing is in a":     {all, space("b", "", -1)},
		"in no name":          {space("a", "ALL", -1), all},
		"in a dash":           {space("a", "-", -1), all},
		"no name":             {space("", "all", -1), all},
		"a great name":        {space("A", "all", -1), all},
		"a long name":         {space("abcdefg", "all", -1), all},
		"two of one name":     {space("a", "all", -1), space("a", "all", -1), all},
		"all twice":           {all, all},
		"they descend":        {all, space("a", "all", -1)},
		"the last descends":   {space("a", "all", -1), all, space("ab", "all", -1)},
		"longer one first":    {space("aa", "all", -1), space("a", "all", -1), all},
		"eight":               {space("a", "all", -1), all, space("b", "all", -1), space("c", "all", -1), space("d", "all", -1), space("e", "all", -1), space("f", "all", -1), space("g", "all", -1)},
		"a limit too low":     {space("a", "all", -2), all},
		"a limit too great":   {space("a", "all", impl.CountMax+1), all},
		"the least limit":     {space("a", "all", math.MinInt), all},
		"the greatest limit":  {space("all", "", math.MaxInt)},
		"a rev below":         {{Name: "a", Over: "all", Rev: -1}, all},
		"a rev too great":     {{Name: "a", Over: "all", Rev: impl.CountMax + 1}, all},
		"the greatest rev":    {{Name: "all", Rev: math.MaxInt}},
		"more than can be":    make([]impl.Space, 10000),
		"a row to none":       {space("a", "b", -1), all, space("b", "c", -1), space("c", "d", -1)},
		"a row to one called": {space("a", "all", -1), space("alla", "a", -1)},
	}
	return bad
}

// someNames are those of someSpaces, and others.
func someNames() []string {
	return []string{"a", "aa", "all", "alla", "b", "c", "d", "e", "f", "zzzzzz", "zz", "g", "al", "", "-", "A", "abcdefg", "a b"}
}

// spaceOf is the space of a name, and whether there is one.
func spaceOf(list []impl.Space, name string) (impl.Space, bool) {
	for _, s := range list {
		if s.Name == name {
			return s, true
		}
	}
	return impl.Space{}, false
}

// plainUp is a space and all that it is in.
func plainUp(list []impl.Space, name string) []string {
	var up []string
	for s, there := spaceOf(list, name); there; s, there = spaceOf(list, s.Over) {
		up = append(up, s.Name)
	}
	return up
}

// someUses are uses that are ok with spaces.
func someUses(list []impl.Space, c *chance) []impl.Use {
	var uses []impl.Use
	for _, s := range list {
		uses = append(uses, impl.Use{Name: s.Name, Units: c.next(12)})
	}
	return uses
}

// badUses are uses that are not ok with spaces, by what is bad of them; there are at least two spaces.
func badUses(list []impl.Space) map[string][]impl.Use {
	c := chance(5)
	bad := map[string][]impl.Use{"none": nil}
	spoil := func(what string, do func(uses []impl.Use) []impl.Use) {
		bad[what] = do(someUses(list, &c))
	}
	spoil("one less", func(uses []impl.Use) []impl.Use { return uses[1:] })
	spoil("the last less", func(uses []impl.Use) []impl.Use { return uses[:len(uses)-1] })
	spoil("one more", func(uses []impl.Use) []impl.Use { return append(uses, impl.Use{Name: "zzzzzz"}) })
	spoil("another name", func(uses []impl.Use) []impl.Use { uses[0].Name = "zzzz"; return uses })
	spoil("the last another name", func(uses []impl.Use) []impl.Use { uses[len(uses)-1].Name = ""; return uses })
	spoil("another order", func(uses []impl.Use) []impl.Use { uses[0], uses[1] = uses[1], uses[0]; return uses })
	for _, units := range []int{-1, impl.CountMax + 1, math.MinInt, math.MaxInt} {
		spoil(fmt.Sprint("units ", units), func(uses []impl.Use) []impl.Use { uses[1].Units = units; return uses })
	}
	return bad
}

func TestPromise35(t *testing.T) {
	for written, s := range map[string]impl.Space{
		"s.all|- -1 here 0":                 space("all", "", -1),
		"s.all|- 0 here 99999":              {Name: "all", Rev: impl.CountMax},
		"s.all|- 99999 here 7":              {Name: "all", Limit: impl.CountMax, Rev: 7},
		"s.a|all -1 going 1":                {Name: "a", Over: "all", Limit: -1, Gone: true, Rev: 1},
		"s.abcdef|zyxwvu 30 here 12":        {Name: "abcdef", Over: "zyxwvu", Limit: 30, Rev: 12},
		"s.s|s 1 going 0":                   {Name: "s", Over: "s", Limit: 1, Gone: true},
		"s.going|here 10 going 10":          {Name: "going", Over: "here", Limit: 10, Gone: true, Rev: 10},
		"s.zzzzzz|abcdef 99999 going 99999": {Name: "zzzzzz", Over: "abcdef", Limit: impl.CountMax, Gone: true, Rev: impl.CountMax},
		"s.allx|all 5 here 0":               {Name: "allx", Over: "all", Limit: 5},
	} {
		key, text, _ := strings.Cut(written, "|")
		if got := impl.SpaceWrite(s); got != text {
			t.Errorf("%q: written %q", written, got)
		}
		if got, ok := impl.SpaceRead(key, text); !ok || got != s {
			t.Errorf("%q: read %v", written, got)
		}
		for _, other := range changed(text) {
			if x, ok := impl.SpaceRead(key, other); ok && ("s."+x.Name != key || impl.SpaceWrite(x) != other || other == "") || !ok && x != (impl.Space{}) {
				t.Errorf("%q and %q are read as %v", key, other, x)
			}
		}
		for _, other := range changed(key) {
			if x, ok := impl.SpaceRead(other, text); ok && ("s."+x.Name != other || impl.SpaceWrite(x) != text) || !ok && x != (impl.Space{}) {
				t.Errorf("%q and %q are read as %v", other, text, x)
			}
		}
	}
}

func TestPromise35Bad(t *testing.T) {
	for _, bad := range []impl.Space{
		{}, space("", "all", 0), space("a", "", 0), space("all", "a", 0), space("all", "all", 0), closed(space("all", "", 0)), space("A", "all", 0), space("a", "B", 0),
		space("abcdefg", "all", 0), space("a", "abcdefg", 0), space("a", "-", 0), space("-", "all", 0), space("a", "all", -2), space("a", "all", impl.CountMax+1),
		space("a", "all", math.MinInt), space("a", "all", math.MaxInt), {Name: "a", Over: "all", Rev: -1}, {Name: "a", Over: "all", Rev: impl.CountMax + 1}, {Name: "a", Over: "all", Rev: math.MaxInt},
	} {
		if got := impl.SpaceWrite(bad); got != "" {
			t.Errorf("%v is written %q", bad, got)
		}
	}
	for _, bad := range []string{
		"", "   ", "all", "all 5", "all 5 here", "all 5 here ", "all 5 here 1 ", "all 5 here 1 2", " all 5 here 1", "all  5 here 1", "all 05 here 1", "all 5 here 01", "all +5 here 1", "all -2 here 1",
		"all -0 here 1", "all 5 here -1", "all 100000 here 1", "all 5 here 100000", "all 123456789 here 1", "all 5 gone 1", "all 5 Here 1", "all 5  1", "- 5 here 1", " 5 here 1", "ALL 5 here 1", "abcdefg 5 here 1", "all 5 here x", "all x here 1", "all --1 here 1", "all -01 here 1",
	} {
		if s, ok := impl.SpaceRead("s.a", bad); ok || s != (impl.Space{}) {
			t.Errorf("%q is read as %v", bad, s)
		}
	}
	for key, text := range map[string]string{
		"s.all": "all 5 here 1", "s.": "all 5 here 2", "s": "all 5 here 3", "": "all 5 here 4", "t.a": "all 5 here 5", "s.A": "all 5 here 6", "s.abcdefg": "all 5 here 7", "s.a.b": "all 5 here 8", "S.a": "all 5 here 9", "s.a ": "all 5 here 10", "a": "all 5 here 11", "s..a": "all 5 here 12",
	} {
		if s, ok := impl.SpaceRead(key, text); ok || s != (impl.Space{}) {
			t.Errorf("%q is read as %v", key, s)
		}
	}
	for _, text := range []string{"- 5 going 1", "a 5 here 1", " 5 here 1", "all 5 here 1"} {
		if s, ok := impl.SpaceRead("s.all", text); ok || s != (impl.Space{}) {
			t.Errorf("all is read of %q as %v", text, s)
		}
	}
}

func TestSpacesOk(t *testing.T) {
	for what, list := range someSpaces() {
		if !impl.SpacesOk(list) {
			t.Errorf("%s: not ok", what)
		}
	}
	for what, list := range badSpaces() {
		mustPanicNot(t, what, func() {
			if impl.SpacesOk(list) {
				t.Errorf("%s: ok", what)
			}
		})
	}
}

// Of spaces that are not ok there is one fixed answer.
func TestSpacesBad(t *testing.T) {
	things := []impl.Thing{thing("x", 1, 1, "body")}
	for what, list := range badSpaces() {
		var uses []impl.Use
		for _, s := range list {
			uses = append(uses, impl.Use{Name: s.Name})
		}
		mustPanicNot(t, what, func() {
			for _, name := range someNames() {
				if len(impl.SpaceUp(list, name)) != 0 || impl.SpaceIn(list, name, name) || impl.SpaceIn(list, name, "all") || impl.SpaceGoing(list, name) || impl.UseSum(list, things, name) != 0 || len(impl.UseAdd(list, uses, name, 0)) != 0 {
					t.Errorf("%s: something is told of %q", what, name)
				}
				if got := impl.UseMay(list, uses, name, 0); got != name {
					t.Errorf("%s: %q may be: %q", what, name, got)
				}
			}
		})
	}
}

func TestPromise36(t *testing.T) {
	for what, list := range someSpaces() {
		for _, name := range someNames() {
			up := impl.SpaceUp(list, name)
			if !sameTexts(up, plainUp(list, name)) {
				t.Errorf("%s, %q: %v", what, name, up)
			}
			if _, there := spaceOf(list, name); there != (len(up) > 0) {
				t.Errorf("%s, %q: %v", what, name, up)
			}
			if len(up) == 0 {
				continue
			}
			if up[0] != name || up[len(up)-1] != impl.SpaceAll || len(slices.Compact(slices.Sorted(slices.Values(up)))) != len(up) {
				t.Errorf("%s, %q: %v", what, name, up)
			}
			for _, over := range up {
				if !impl.SpaceIn(list, name, over) {
					t.Errorf("%s: %q is not in %q", what, name, over)
				}
			}
		}
	}
	if got := impl.SpaceUp(someSpaces()["a row backwards"], "a"); !sameTexts(got, []string{"a", "b", "c", "d", "e", "f", "all"}) {
		t.Error(got)
	}
}

func TestPromise37(t *testing.T) {
	for what, list := range someSpaces() {
		in := func(name, over string) bool {
			got := impl.SpaceIn(list, name, over)
			if got != slices.Contains(plainUp(list, name), over) {
				t.Fatalf("%s: %q in %q: %v", what, name, over, got)
			}
			return got
		}
		for _, a := range someNames() {
			for _, b := range someNames() {
				if in(a, b) && in(b, a) && a != b {
					t.Errorf("%s: %q and %q are in one another", what, a, b)
				}
				for _, c := range someNames() {
					if in(a, b) && in(b, c) && !in(a, c) {
						t.Errorf("%s: %q in %q in %q", what, a, b, c)
					}
				}
			}
		}
	}
}

func TestPromise38(t *testing.T) {
	for what, list := range someSpaces() {
		for _, name := range someNames() {
			want := false
			for _, s := range list {
				want = want || s.Gone && impl.SpaceIn(list, name, s.Name)
			}
			if got := impl.SpaceGoing(list, name); got != want {
				t.Errorf("%s, %q: going %v", what, name, got)
			}
		}
	}
	list := someSpaces()["a tree"]
	for name, want := range map[string]bool{"a": false, "all": false, "b": true, "c": false, "d": false, "e": true, "f": true, "g": false} {
		if impl.SpaceGoing(list, name) != want {
			t.Errorf("%q: going is not %v", name, want)
		}
	}
}

// thingsIn are things of spaces, by the letters of their names, each of a cost of its own.
func thingsIn(spaces string) []impl.Thing {
	var things []impl.Thing
	for place, name := range strings.Fields(spaces) {
		things = append(things, impl.Thing{Space: name, Name: "x", Uid: 1 + place, Rev: 1, Body: strings.Repeat("b", 1<<place%41)})
	}
	return things
}

func TestPromise39(t *testing.T) {
	for what, list := range someSpaces() {
		for _, spaces := range []string{"", "all", "a", "a b c d e f", "c all a f zz a", "zz g", "f f f f f f f", "alla zzzzzz aa b"} {
			things := thingsIn(spaces)
			for _, name := range someNames() {
				want := 0
				if _, there := spaceOf(list, name); there {
					for _, x := range things {
						if x.Space == name {
							want += impl.ThingCost(x)
						}
					}
					for _, s := range list {
						if s.Over == name {
							want += impl.UseSum(list, things, s.Name)
						}
					}
				}
				if got := impl.UseSum(list, things, name); got != want {
					t.Errorf("%s, %q of %q: %d, not %d", what, name, spaces, got, want)
				}
			}
		}
	}
	list := someSpaces()["a tree"]
	things := []impl.Thing{thing("x", 1, 1, "1234"), {Space: "f", Name: "x", Uid: 1, Rev: 1, Body: "12"}, {Space: "d", Name: "x", Uid: 1, Rev: 1}, {Space: "b", Name: "y", Uid: 7, Rev: 9, Gone: true, Marks: []string{"k"}, Body: letters(40)}, {Space: "g", Name: "x", Uid: 1, Rev: 1, Body: "1"}}
	for name, want := range map[string]int{"all": 50, "a": 50, "b": 41, "c": 4, "d": 1, "e": 3, "f": 3, "g": 0, "": 0} {
		if got := impl.UseSum(list, things, name); got != want {
			t.Errorf("%q uses %d, not %d", name, got, want)
		}
	}
}

func TestPromise39Bad(t *testing.T) {
	list := someSpaces()["a tree"]
	for what, x := range badThings() {
		for place := range 4 {
			things := slices.Insert(thingsIn("a b c"), place, x)
			if got := impl.UseSum(list, things, "all"); got != 0 {
				t.Errorf("%s at %d: %d", what, place, got)
			}
		}
	}
	// Also one that is of no space, or of another one.
	for _, name := range []string{"zz", "b"} {
		if got := impl.UseSum(list, append(thingsIn("a"), impl.Thing{Space: name, Name: "x", Uid: 1}), "c"); got != 0 {
			t.Error(name, got)
		}
	}
}

func TestPromise40(t *testing.T) {
	c := chance(40)
	for what, list := range someSpaces() {
		for range 20 {
			uses := someUses(list, &c)
			for _, name := range someNames() {
				for _, more := range []int{0, 1, 2, 3, 4, 5, 9, 30, 50, 99, 99988, impl.CountMax} {
					want := name
					if up := plainUp(list, name); len(up) > 0 {
						want = ""
						for _, over := range slices.Backward(up) {
							s, _ := spaceOf(list, over)
							if s.Limit >= 0 && unitsOf(uses, over)+more > s.Limit {
								want = over
							}
						}
						if added := impl.UseAdd(list, uses, name, more); len(added) > 0 && want != "" {
							s, _ := spaceOf(list, want)
							if unitsOf(added, want) <= s.Limit {
								t.Errorf("%s: %s can take %d in %s", what, want, more, name)
							}
						}
					}
					if got := impl.UseMay(list, uses, name, more); got != want {
						t.Errorf("%s, %v: %d more in %q: %q, not %q", what, uses, more, name, got, want)
					}
				}
			}
		}
	}
}

// unitsOf is how much a space uses.
func unitsOf(uses []impl.Use, name string) int {
	for _, use := range uses {
		if use.Name == name {
			return use.Units
		}
	}
	return -1
}

func TestPromise40Edges(t *testing.T) {
	list := []impl.Space{space("a", "all", 5), space("all", "", 9), space("b", "a", 5), space("c", "a", 0), space("d", "a", -1)}
	uses := []impl.Use{{Name: "a", Units: 5}, {Name: "all", Units: 8}, {Name: "b", Units: 3}, {Name: "c"}, {Name: "d", Units: 7}}
	for i, c := range []struct {
		name string
		more int
		want string
	}{
		{"a", 0, ""}, {"a", 1, "a"}, {"b", 0, ""}, {"b", 1, "a"}, {"b", 2, "a"}, {"b", 3, "b"}, {"c", 0, ""}, {"c", 1, "c"}, {"d", 0, ""}, {"d", 1, "a"}, {"all", 1, ""}, {"all", 2, "all"},
		{"zz", 0, "zz"}, {"", 0, ""}, {"", 1, ""}, {"A", 0, "A"}, {"a", -1, "a"}, {"all", -1, "all"}, {"d", math.MinInt, "d"}, {"d", math.MaxInt, "d"}, {"d", impl.CountMax + 1, "d"}, {"b", impl.CountMax, "b"}, {"d", impl.CountMax, "a"},
	} {
		if got := impl.UseMay(list, uses, c.name, c.more); got != c.want {
			t.Errorf("case %d: %q", i, got)
		}
	}
	// A limit that was lowered stands against nothing more, even of no size.
	list[0].Limit = 4
	for name, want := range map[string]string{"a": "a", "b": "a", "d": "a", "all": ""} {
		if got := impl.UseMay(list, uses, name, 0); got != want {
			t.Errorf("lowered, %s: %q", name, got)
		}
	}
	for what, bad := range badUses(list) {
		for _, name := range []string{"a", "all", "d", "zz", ""} {
			if got := impl.UseMay(list, bad, name, 0); got != name {
				t.Errorf("%s: %q", what, got)
			}
		}
	}
	endless := []impl.Space{space("all", "", -1)}
	if got := impl.UseMay(endless, []impl.Use{{Name: "all", Units: impl.CountMax}}, "all", impl.CountMax); got != "" {
		t.Error(got)
	}
}

func TestPromise41(t *testing.T) {
	c := chance(41)
	for what, list := range someSpaces() {
		for range 20 {
			uses := someUses(list, &c)
			for _, name := range someNames() {
				for _, more := range []int{0, 1, 3, 7, 30, 99988, impl.CountMax, -1, -3, -7, -30, -impl.CountMax} {
					want, fits := slices.Clone(uses), true
					for place, use := range uses {
						if impl.SpaceIn(list, name, use.Name) {
							want[place].Units += more
							fits = fits && want[place].Units >= 0 && want[place].Units <= impl.CountMax
						}
					}
					got := impl.UseAdd(list, uses, name, more)
					if fits && !slices.Equal(got, want) || !fits && len(got) != 0 {
						t.Fatalf("%s, %v: %d more in %q: %v", what, uses, more, name, got)
					}
					if back := impl.UseAdd(list, got, name, -more); fits && !slices.Equal(back, uses) {
						t.Fatalf("%s, %v: %d more in %q, and back: %v", what, uses, more, name, back)
					}
				}
			}
		}
	}
}

func TestPromise41Edges(t *testing.T) {
	list := []impl.Space{space("a", "all", 5), space("all", "", 9), space("b", "a", 5)}
	uses := []impl.Use{{Name: "a", Units: 2}, {Name: "all", Units: impl.CountMax - 1}, {Name: "b", Units: 1}}
	for i, c := range []struct {
		name string
		more int
		want string
	}{
		{"b", 1, "[{a 3} {all 99999} {b 2}]"}, {"b", 2, "[]"}, {"a", 1, "[{a 3} {all 99999} {b 1}]"}, {"b", -1, "[{a 1} {all 99997} {b 0}]"}, {"b", -2, "[]"}, {"a", -2, "[{a 0} {all 99996} {b 1}]"}, {"a", -3, "[]"},
		{"zz", 1, "[{a 2} {all 99998} {b 1}]"}, {"", 5, "[{a 2} {all 99998} {b 1}]"}, {"zz", impl.CountMax, "[{a 2} {all 99998} {b 1}]"}, {"zz", impl.CountMax + 1, "[]"}, {"zz", -impl.CountMax - 1, "[]"},
		{"all", math.MinInt, "[]"}, {"all", math.MaxInt, "[]"}, {"all", -impl.CountMax + 1, "[{a 2} {all 0} {b 1}]"}, {"all", -impl.CountMax, "[]"},
	} {
		if got := fmt.Sprint(impl.UseAdd(list, uses, c.name, c.more)); got != c.want {
			t.Errorf("case %d: %s", i, got)
		}
	}
	for what, bad := range badUses(list) {
		for _, name := range []string{"a", "all", "b", "zz", ""} {
			if got := impl.UseAdd(list, bad, name, 0); len(got) != 0 {
				t.Errorf("%s: %v", what, got)
			}
		}
	}
}

// What is answered shares no memory with what was asked, and what was asked stays, with the room behind its end.
func TestSpaceMemory(t *testing.T) {
	c := chance(8)
	list := append(someSpaces()["a tree"], impl.Space{Name: "behind"})
	uses := append(someUses(list[:7], &c), impl.Use{Name: "behind"})
	things := append(thingsIn("a b c d"), impl.Thing{Name: "behind"})
	l, u, x := list[:7:8], uses[:7:8], things[:4:5]
	for _, name := range someNames() {
		impl.SpacesOk(l)
		impl.SpaceIn(l, name, "all")
		impl.SpaceGoing(l, name)
		impl.UseSum(l, x, name)
		impl.UseMay(l, u, name, 1)
		up, more := impl.SpaceUp(l, name), impl.UseAdd(l, u, name, 0)
		up, more = up[:cap(up)], more[:cap(more)]
		for i := range up {
			up[i] = "spoilt"
		}
		for i := range more {
			more[i] = impl.Use{Name: "spoilt"}
		}
	}
	again := chance(8)
	if !slices.Equal(list, append(someSpaces()["a tree"], impl.Space{Name: "behind"})) || !slices.Equal(uses, append(someUses(list[:7], &again), impl.Use{Name: "behind"})) {
		t.Error("an argument is changed")
	}
	for i, want := range append(thingsIn("a b c d"), impl.Thing{Name: "behind"}) {
		if !sameThing(things[i], want) {
			t.Error("a thing is changed")
		}
	}
}
