package tests

import (
	"math"
	"slices"
	"strings"
	"testing"

	"loop.example/muniment/impl"
)

// thing is a thing of the space `a`.
func thing(name string, uid, rev int, body string, marks ...string) impl.Thing {
	return impl.Thing{Space: "a", Name: name, Uid: uid, Rev: rev, Marks: marks, Body: body}
}

// going is a thing that is to go.
func going(t impl.Thing) impl.Thing {
	t.Gone = true
	return t
}

// sameThing says whether two things are the same; no list is an empty one.
func sameThing(a, b impl.Thing) bool {
	return a.Space == b.Space && a.Name == b.Name && a.Uid == b.Uid && a.Rev == b.Rev &&
		a.Gone == b.Gone && a.Body == b.Body && sameTexts(a.Marks, b.Marks)
}

// allBytes are all that a body may have, from the blank to `~`.
func allBytes() string {
	text := ""
	for b := ' '; b <= '~'; b++ {
		text += string(b)
	}
	return text
}

// someThings are things that are ok, by how they are written behind `t.a.x`, or the key that is told ahead.
func someThings() map[string]impl.Thing {
	forty := letters(40)
	other := impl.Thing{Space: "abcdef", Name: "zyxwvu", Uid: impl.CountMax, Rev: impl.CountMax, Gone: true, Marks: []string{"abcdef", "abcdeg"}, Body: forty}
	things := map[string]impl.Thing{
		"t.a.x|1 1 here - ":                                        thing("x", 1, 1, ""),
		"t.a.x|1 2 going k,l a b":                                  going(thing("x", 1, 2, "a b", "k", "l")),
		"t.a.x|3 2 here k body":                                    thing("x", 3, 2, "body", "k"),
		"t.a.x|3 2 going k ":                                       going(thing("x", 3, 2, "", "k")),
		"t.a.x|3 2 here a,aa  ":                                    thing("x", 3, 2, " ", "a", "aa"),
		"t.a.x|10 20 here - -":                                     thing("x", 10, 20, "-"),
		"t.a.x|99999 1 here -  two  ":                              thing("x", 99999, 1, " two  "),
		"t.a.x|1 99999 here - 1 2 going":                           thing("x", 1, 99999, "1 2 going"),
		"t.a.x|7 8 here - " + forty:                                thing("x", 7, 8, forty),
		"t.a.t|7 8 here t t.a.t":                                   thing("t", 7, 8, "t.a.t", "t"),
		"t.abcdef.zyxwvu|99999 99999 going abcdef,abcdeg " + forty: other,
	}
	bytes := allBytes()
	for at := 0; at < len(bytes); at += 40 {
		body := bytes[at:min(at+40, len(bytes))]
		things["t.a.x|5 6 here k "+body] = thing("x", 5, 6, body, "k")
	}
	return things
}

// badThings are things that are not ok, by what is bad of them.
func badThings() map[string]impl.Thing {
	bad := map[string]impl.Thing{
		"nothing":            {},
		"no space":           {Name: "x", Uid: 1, Rev: 1},
		"a long space":       {Space: "abcdefg", Name: "x", Uid: 1, Rev: 1},
		"a great space":      {Space: "A", Name: "x", Uid: 1, Rev: 1},
		"no name":            thing("", 1, 1, ""),
		"a long name":        thing("abcdefg", 1, 1, ""),
		"a name with a dot":  thing("x.y", 1, 1, ""),
		"gone, no marks":     going(thing("x", 1, 1, "b")),
		"gone, empty marks":  {Space: "a", Name: "x", Uid: 1, Rev: 1, Gone: true, Marks: []string{}},
		"three marks":        thing("x", 1, 1, "b", "k", "l", "m"),
		"many marks":         thing("x", 1, 1, "b", make([]string, 1000)...),
		"marks descend":      thing("x", 1, 1, "b", "l", "k"),
		"marks alike":        thing("x", 1, 1, "b", "k", "k"),
		"longer mark first":  thing("x", 1, 1, "b", "kk", "k"),
		"an empty mark":      thing("x", 1, 1, "b", ""),
		"an empty one first": thing("x", 1, 1, "b", "", "k"),
		"a dash as a mark":   thing("x", 1, 1, "b", "-"),
		"a comma in a mark":  thing("x", 1, 1, "b", "k,l"),
		"a long mark":        thing("x", 1, 1, "b", "k", "lmnopqr"),
		"a body too long":    thing("x", 1, 1, letters(41)),
		"a very long body":   thing("x", 1, 1, letters(9000)),
		"a newline":          thing("x", 1, 1, "a\nb"),
		"below the blank":    thing("x", 1, 1, "a\x1f"),
		"above the tilde":    thing("x", 1, 1, "\x7f"),
		"a far byte":         thing("x", 1, 1, "\xff"),
		"a letter of two":    thing("x", 1, 1, "é"),
		"a nought byte":      thing("x", 1, 1, "\x00"),
	}
	for what, num := range map[string]int{"none": 0, "below": -1, "too great": impl.CountMax + 1, "least": math.MinInt, "greatest": math.MaxInt} {
		bad["a uid: "+what] = thing("x", num, 1, "b")
		bad["a rev: "+what] = thing("x", 1, num, "b")
	}
	return bad
}

func TestPromise32(t *testing.T) {
	for written, x := range someThings() {
		key, text, _ := strings.Cut(written, "|")
		if !impl.ThingOk(x) {
			t.Fatalf("%q: not ok", written)
		}
		if got := impl.ThingKey(x.Space, x.Name); got != key {
			t.Errorf("%q: key %q", written, got)
		}
		if got := impl.ThingWrite(x); got != text {
			t.Errorf("%q: written %q", written, got)
		}
		if got, ok := impl.ThingRead(key, text); !ok || !sameThing(got, x) {
			t.Errorf("%q: read %v", written, got)
		}
	}
}

// changed are texts that are like another one but for one byte, which is another one, too much, or missing.
func changed(text string) []string {
	var list []string
	for at := range len(text) + 1 {
		for _, b := range []string{" ", "-", ",", ".", "0", "1", "9", "+", "a", "k", "z", "A", "\n", "\x00", "\xff", ""} {
			list = append(list, text[:at]+b+text[at:])
			if at < len(text) {
				list = append(list, text[:at]+b+text[at+1:])
			}
		}
	}
	return append(list, text+text, "", strings.ToUpper(text))
}

func TestPromise32Changed(t *testing.T) {
	check := func(key, text string) {
		x, ok := impl.ThingRead(key, text)
		if ok && (!impl.ThingOk(x) || impl.ThingKey(x.Space, x.Name) != key || impl.ThingWrite(x) != text) {
			t.Errorf("%q and %q are read as %v", key, text, x)
		}
		if !ok && !sameThing(x, impl.Thing{}) {
			t.Errorf("%q and %q: %v beside a false", key, text, x)
		}
	}
	for written := range someThings() {
		key, text, _ := strings.Cut(written, "|")
		for _, other := range changed(text) {
			check(key, other)
		}
		for _, other := range changed(key) {
			check(other, text)
		}
	}
}

func TestPromise32Bad(t *testing.T) {
	for what, x := range badThings() {
		if impl.ThingOk(x) || impl.ThingWrite(x) != "" {
			t.Errorf("%s: ok, and written %q", what, impl.ThingWrite(x))
		}
	}
	for _, bad := range []string{
		"", " ", "    ", "1", "1 2", "1 2 here", "1 2 here k,l", "1 2 here -", "0 2 here - b", "1 0 here - b", "-1 2 here - b", "01 2 here - b",
		"1 02 here - b", "+1 2 here - b", "100000 2 here - b", "1 100000 here - b", "100000000 2 here - b", "1 2 going - b", "1 2 gone k b",
		"1 2 there - b", "1 2  - b", "1 2 Here - b", "1 2 here  b", "1 2 here l,k b", "1 2 here k,k b", "1 2 here k, b", "1 2 here ,k b", "1 2 here k,l,m b",
		"1 2 here -,k b", "1 2 here K b", "1 2 here abcdefg b", " 1 2 here - b", "1  2 here - b", "1 2 here - b\n", "1 2 here - " + letters(41), "x 2 here - b", "1 x here - b",
	} {
		if x, ok := impl.ThingRead("t.a.x", bad); ok || !sameThing(x, impl.Thing{}) {
			t.Errorf("%q is read as %v", bad, x)
		}
	}
	for _, bad := range []string{"", "t", "t.", "t..", "t.a", "t.a.", "t..x", ".a.x", "a.x", "s.a.x", "T.a.x", "t.a.x.", "t.a.x.y", ".t.a.x", "t.A.x", "t.a.x1", "t.abcdefg.x", "t.a.abcdefg", "t.a x", "tt.a.x", "t.a:x", strings.Repeat(".", 5000)} {
		if x, ok := impl.ThingRead(bad, "1 2 here - b"); ok || !sameThing(x, impl.Thing{}) {
			t.Errorf("the key %q is read: %v", bad, x)
		}
	}
}

func TestPromise33(t *testing.T) {
	for size := range impl.BodyMax + 1 {
		for _, x := range []impl.Thing{thing("x", 1, 2, letters(size)), going(thing("y", 3, 4, strings.Repeat(" ", size), "k", "l"))} {
			if got := impl.ThingCost(x); got != size+1 {
				t.Errorf("%d bytes cost %d", size, got)
			}
		}
	}
	for what, x := range badThings() {
		if got := impl.ThingCost(x); got != 0 {
			t.Errorf("%s costs %d", what, got)
		}
	}
}

func TestPromise34(t *testing.T) {
	names := []string{"a", "b", "z", "aa", "ab", "ba", "all", "abcde", "abcdef", "zzzzzz", "t", "s"}
	seen := map[string]bool{}
	for _, space := range names {
		for _, name := range names {
			key := impl.ThingKey(space, name)
			if key != "t."+space+"."+name || seen[key] || len(key) > impl.KeyMax {
				t.Errorf("the key of %s and %s: %q", space, name, key)
			}
			seen[key] = true
		}
	}
	for _, bad := range []string{"", " ", "A", "a.b", "a ", "abcdefg", "a1", "-", "é", "a\x00", letters(9000)} {
		if impl.ThingKey(bad, "x") != "" || impl.ThingKey("x", bad) != "" || impl.ThingKey(bad, bad) != "" {
			t.Errorf("%q has a key", bad)
		}
	}
}

// What is answered shares no memory with what was asked, and what was asked stays, with the room behind its end.
func TestThingMemory(t *testing.T) {
	marks := []string{"k", "l", "behind"}
	x := going(thing("x", 1, 2, "body", marks[:2:3]...))
	if !impl.ThingOk(x) || impl.ThingCost(x) != 5 || impl.ThingWrite(x) != "1 2 going k,l body" {
		t.Error("not ok")
	}
	if !slices.Equal(marks, []string{"k", "l", "behind"}) {
		t.Error("an argument is changed", marks)
	}
	a, _ := impl.ThingRead("t.a.x", "1 2 going k,l body")
	a.Marks[0] = "spoilt"
	if b, _ := impl.ThingRead("t.a.x", "1 2 going k,l body"); b.Marks[0] != "k" {
		t.Error("two answers share memory")
	}
}
