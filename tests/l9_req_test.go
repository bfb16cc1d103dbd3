package tests

import (
	"math"
	"strings"
	"testing"

	"loop.example/muniment/impl"
)

// someReqs are requests that are ok, by how they are written.
func someReqs() map[string]impl.Req {
	forty := letters(40)
	reqs := map[string]impl.Req{
		"space a all 30":            {Kind: 1, Space: "a", Name: "all", Num: 30},
		"space a a -1":              {Kind: 1, Space: "a", Name: "a", Num: -1},
		"space abcdef zyxwvu 99999": {Kind: 1, Space: "abcdef", Name: "zyxwvu", Num: 99999},
		"space all all 0":           {Kind: 1, Space: "all", Name: "all"},
		"limit a -1":                {Kind: 2, Space: "a", Num: -1},
		"limit all 0":               {Kind: 2, Space: "all"},
		"limit abcdef 99999":        {Kind: 2, Space: "abcdef", Num: 99999},
		"close a":                   {Kind: 3, Space: "a"},
		"close all":                 {Kind: 3, Space: "all"},
		"put a x first":             {Kind: 4, Space: "a", Name: "x", Text: "first"},
		"put a x ":                  {Kind: 4, Space: "a", Name: "x"},
		"put a x  ":                 {Kind: 4, Space: "a", Name: "x", Text: " "},
		"put a x  two  words ":      {Kind: 4, Space: "a", Name: "x", Text: " two  words "},
		"put a x " + forty:          {Kind: 4, Space: "a", Name: "x", Text: forty},
		"put abcdef zyxwvu -":       {Kind: 4, Space: "abcdef", Name: "zyxwvu", Text: "-"},
		"set a x 0 other":           {Kind: 5, Space: "a", Name: "x", Text: "other"},
		"set a x 12 ":               {Kind: 5, Space: "a", Name: "x", Num: 12},
		"set a x 99999 7 -1 b":      {Kind: 5, Space: "a", Name: "x", Num: 99999, Text: "7 -1 b"},
		"set a x 1 " + forty:        {Kind: 5, Space: "a", Name: "x", Num: 1, Text: forty},
		"mark a x k":                {Kind: 6, Space: "a", Name: "x", Text: "k"},
		"mark abcdef zyxwvu lmnopq": {Kind: 6, Space: "abcdef", Name: "zyxwvu", Text: "lmnopq"},
		"unmark a x k":              {Kind: 7, Space: "a", Name: "x", Text: "k"},
		"unmark x a all":            {Kind: 7, Space: "x", Name: "a", Text: "all"},
		"drop a x":                  {Kind: 8, Space: "a", Name: "x"},
		"drop drop drop":            {Kind: 8, Space: "drop", Name: "drop"},
		"get a x":                   {Kind: 9, Space: "a", Name: "x"},
		"get abcdef zyxwvu":         {Kind: 9, Space: "abcdef", Name: "zyxwvu"},
		"list a":                    {Kind: 10, Space: "a"},
		"list list":                 {Kind: 10, Space: "list"},
		"watch a 0":                 {Kind: 11, Space: "a"},
		"watch abcdef 99999":        {Kind: 11, Space: "abcdef", Num: 99999},
		"step":                      {Kind: 12},
	}
	bytes := allBytes()
	for at := 0; at < len(bytes); at += 40 {
		body := bytes[at:min(at+40, len(bytes))]
		reqs["put a x "+body] = impl.Req{Kind: 4, Space: "a", Name: "x", Text: body}
		reqs["set a x 3 "+body] = impl.Req{Kind: 5, Space: "a", Name: "x", Num: 3, Text: body}
	}
	return reqs
}

func TestPromise42(t *testing.T) {
	for text, r := range someReqs() {
		if !impl.ReqOk(r) || impl.ReqWrite(r) != text {
			t.Errorf("%q is written %q", text, impl.ReqWrite(r))
		}
		if got, ok := impl.ReqRead(text); !ok || got != r {
			t.Errorf("%q is read as %v", text, got)
		}
		for _, other := range changed(text) {
			got, ok := impl.ReqRead(other)
			if ok && (!impl.ReqOk(got) || impl.ReqWrite(got) != other) || !ok && got != (impl.Req{}) {
				t.Errorf("%q is read as %v", other, got)
			}
		}
	}
}

// The constants of the kinds have the numbers that the document tells.
func TestPromise42Kinds(t *testing.T) {
	kinds := []int{0, impl.ReqSpace, impl.ReqLimit, impl.ReqClose, impl.ReqPut, impl.ReqSet, impl.ReqMark, impl.ReqUnmark, impl.ReqDrop, impl.ReqGet, impl.ReqList, impl.ReqWatch, impl.ReqStep}
	for want, kind := range kinds {
		if kind != want {
			t.Errorf("%d is %d", want, kind)
		}
	}
}

func TestPromise42NotRead(t *testing.T) {
	for _, bad := range []string{
		"", " ", "x", "ask a", "Step", "STEP", "step ", " step", "step a", "steps", "space", "space ", "space a", "space a ", "space a all", "space a all ", "space a all 5 ", "space a all 5 6", "space a  5", "space  a all 5", " space a all 5",
		"space a all -2", "space a all 05", "space a all +5", "space a all -0", "space a all -01", "space a all 100000", "space a all 123456789", "space a all x", "space A all 5", "space a ALL 5", "space abcdefg all 5", "space a abcdefg 5",
		"limit", "limit a", "limit a ", "limit a -2", "limit a 01", "limit a 00", "limit a 5 ", "limit a 5 6", "limit a b 5", "limit 5", "limit  5", "limit a 100000", "limit A 5", "limit a\t5", "limit a 5\n",
		"close", "close ", "close A", "close a ", "close a b", "close abcdefg", "put", "put a", "put a ", "put a x", "put a  x", "put  x b", "put A x b", "put a X b", "put a x\tb", "put a x b\n", "put a x \x7f", "put a x é", "put a x " + letters(41),
		"set a x", "set a x ", "set a x 5", "set a x  b", "set a x b", "set a x -1 b", "set a x 05 b", "set a x 100000 b", "set a x 5 b\n", "set A x 5 b", "set a X 5 b", "set a x 5 " + letters(41),
		"mark a x", "mark a x ", "mark a x K", "mark a x two words", "mark a x k ", "mark a x abcdefg", "mark a x -", "mark a x k,l", "mark A x k", "mark a  k", "unmark a x", "unmark a x ", "unmark a x K", "unmark a x k l", "unmark a x abcdefg",
		"drop", "drop a", "drop a ", "drop a x ", "drop a x y", "drop A x", "get", "get a", "get a ", "get a x y", "get a x ", "get a X", "list", "list ", "list A", "list a b", "list a ", "watch a", "watch a ", "watch a -1", "watch a 01", "watch a 100000", "watch a x", "watch A 5", "watch a 5 ", "watch a 5 6",
		"marks a x k", "un a x k", "no bad", "flush", "pack", strings.Repeat(" ", 9000), "put a x " + letters(9000), letters(9000),
	} {
		if r, ok := impl.ReqRead(bad); ok || r != (impl.Req{}) {
			t.Errorf("%q is read as %v", bad, r)
		}
	}
}

// badReqs are requests that are not ok.
func badReqs() []impl.Req {
	bad := []impl.Req{{}, {Space: "a"}, {Kind: 13}, {Kind: -1}, {Kind: math.MinInt}, {Kind: math.MaxInt}, {Kind: 0, Space: "a", Name: "x", Num: 1, Text: "k"}}
	// Of each kind: what it is written with, by the letters of SPACE, NAME, NUM and TEXT; a body is b, a mark k.
	for kind, has := range []string{"", "snN", "sN", "s", "snb", "snub", "snk", "snk", "sn", "sn", "s", "su", ""} {
		good := impl.Req{Kind: kind}
		if strings.Contains(has, "s") {
			good.Space = "a"
		}
		if strings.Contains(has, "n") {
			good.Name = "x"
		}
		if strings.Contains(has, "k") {
			good.Text = "k"
		}
		for _, text := range []string{"", "A", "abcdefg", "a ", "-", "a1"} {
			r := good
			if r.Space = text; r.Space != good.Space {
				bad = append(bad, r)
			}
			r = good
			if r.Name = text; r.Name != good.Name {
				bad = append(bad, r)
			}
			r = good
			if r.Text = text; r.Text != good.Text && !strings.Contains(has, "b") {
				bad = append(bad, r)
			}
		}
		for _, num := range []int{-2, -1, 1, 99999, 100000, math.MinInt, math.MaxInt} {
			r := good
			r.Num = num
			lowest, highest := 0, 0
			if strings.Contains(has, "N") {
				lowest, highest = -1, 99999
			} else if strings.Contains(has, "u") {
				lowest, highest = 0, 99999
			}
			if num < lowest || num > highest {
				bad = append(bad, r)
			}
		}
		for _, text := range []string{letters(41), "a\nb", "\x1f", "\x7f", "é", letters(9000)} {
			r := good
			r.Text = text
			bad = append(bad, r)
		}
	}
	return bad
}

func TestPromise42NotOk(t *testing.T) {
	for _, r := range badReqs() {
		if impl.ReqOk(r) || impl.ReqWrite(r) != "" {
			t.Errorf("%v is ok, and written %q", r, impl.ReqWrite(r))
		}
	}
}
