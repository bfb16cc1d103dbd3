package tests

import (
	"crypto/sha256"
	"fmt"
	"maps"
	"math"
	"strings"
	"testing"

	"loop.example/muniment/impl"
)

// plainBits are the bits of keys, made with the sum of the standard library.
func plainBits(keys ...string) string {
	var bits uint64
	for _, key := range keys {
		sum := sha256.Sum256([]byte(key))
		for _, b := range sum[:3] {
			bits |= 1 << (63 - b%64)
		}
	}
	return fmt.Sprintf("%016x", bits)
}

// plainTable is a table, written without a look at its limits.
func plainTable(list []impl.Entry) string {
	var keys []string
	lines, ahead := "", ""
	for place, e := range list {
		if place%4 == 0 {
			ahead = ""
		}
		alike := 0
		for strings.HasPrefix(ahead, e.Key[:alike+1]) {
			alike++
			if alike == len(e.Key) {
				break
			}
		}
		lines += fmt.Sprintf("%d %s %d", alike, e.Key[alike:], e.Seq)
		if !e.Dead {
			lines += " " + e.Value
		}
		lines += "\n"
		keys, ahead = append(keys, e.Key), e.Key
	}
	return fmt.Sprintf("table %d %s\n%s", len(list), plainBits(keys...), lines)
}

// sizedEntries are 80 entries whose table has just so many bytes, about 7000.
func sizedEntries(size int) []impl.Entry {
	var list []impl.Entry
	for i := range 80 {
		list = append(list, impl.Entry{Key: fmt.Sprint("k", 100+i), Seq: 1})
	}
	left := size - len(plainTable(list))
	for i := range list {
		list[i].Value = strings.Repeat("v", min(80, left))
		left -= len(list[i].Value)
	}
	return list
}

// tableLists are entries that make a table.
func tableLists() [][]impl.Entry {
	c := chance(19)
	lists := [][]impl.Entry{nil, {}, someEntries(), manyEntries(240), manyEntries(239), sizedEntries(6999), sizedEntries(7000)}
	for n := range len(someEntries()) {
		lists = append(lists, someEntries()[:n], someEntries()[n:])
	}
	for _, e := range goodEntries() {
		lists = append(lists, []impl.Entry{e})
	}
	long := strings.Repeat("k", 23)
	lists = append(lists, []impl.Entry{
		{Key: long, Seq: impl.SeqMax, Value: strings.Repeat("v", 80)}, {Key: long, Seq: impl.SeqMax - 1, Dead: true},
		{Key: long + "a", Seq: 99999, Value: "1 2"}, {Key: long + "b", Seq: 7, Value: "  "}, {Key: long + "c", Seq: 7},
		{Key: long + "c", Seq: 6, Value: " 6"}, {Key: long + "d", Seq: 1, Dead: true},
	})
	for range 150 {
		lists = append(lists, anyEntries(&c))
	}
	return lists
}

// noTableHeads are texts that are no tables by their first line.
func noTableHeads() map[string]string {
	const bits = "0000000000000000"
	one, two := plainBits("ab"), plainBits("ab", "abc")
	many := strings.Fields(plainTable(manyEntries(99)))[2]
	return map[string]string{
		"the empty text":            "",
		"no newline":                "table 0 " + bits,
		"a newline alone":           "\n",
		"two newlines":              "table 0 " + bits + "\n\n",
		"another word":              "Table 0 " + bits + "\n",
		"no count":                  "table  " + bits + "\n",
		"a count with a nought":     "table 00 " + bits + "\n",
		"a count with a sign":       "table +0 " + bits + "\n",
		"a count below":             "table -1 " + bits + "\n",
		"a count too high":          "table 1 " + bits + "\n",
		"a count far too high":      "table 99999999 " + bits + "\n",
		"a count with many figures": "table 99999999999999999999 " + bits + "\n",
		"a count too low":           "table 0 " + one + "\n0 ab 1 v\n",
		"bits of no key":            "table 0 " + one + "\n",
		"one bit too many":          "table 0 0000000000000001\n",
		"bits too short":            "table 0 000000000000000\n",
		"bits too long":             "table 0 00000000000000000\n",
		"no bits":                   "table 0 \n",
		"bits in other letters":     strings.Replace(plainTable(manyEntries(99)), many, strings.ToUpper(many), 1),
		"bits of another key":       "table 1 " + plainBits("abc") + "\n0 ab 1 v\n",
		"bits of one key of two":    "table 2 " + one + "\n0 ab 1 v\n2 c 1 v\n",
		"bits of more keys":         "table 1 " + two + "\n0 ab 1 v\n",
		"all bits":                  "table 1 ffffffffffffffff\n0 ab 1 v\n",
		"a blank behind the bits":   "table 1 " + one + " \n0 ab 1 v\n",
		"a long count":              "table 1" + strings.Repeat("0", 100000) + " " + bits + "\n",
	}
}

// noTableLines are texts that are no tables by the lines of their entries.
func noTableLines() map[string]string {
	one, two := plainBits("ab"), plainBits("ab", "abc")
	return map[string]string{
		"no end of the last line":      "table 1 " + one + "\n0 ab 1 v",
		"a line with one word":         "table 1 " + one + "\n0\n",
		"a line with two words":        "table 1 " + one + "\n0 ab\n",
		"two blanks ahead of a key":    "table 1 " + one + "\n0  ab 1 v\n",
		"two blanks ahead of a moment": "table 1 " + one + "\n0 ab  1 v\n",
		"an empty line":                "table 1 " + one + "\n\n0 ab 1 v\n",
		"a blank ahead":                "table 1 " + one + "\n 0 ab 1 v\n",
		"a return":                     "table 1 " + one + "\r\n0 ab 1 v\r\n",
		"no alike":                     "table 1 " + one + "\nab 1 v\n",
		"alike with a nought":          "table 1 " + one + "\n00 ab 1 v\n",
		"alike with a sign":            "table 1 " + one + "\n+0 ab 1 v\n",
		"alike below":                  "table 1 " + one + "\n-1 ab 1 v\n",
		"alike where nothing is ahead": "table 1 " + one + "\n1 b 1 v\n",
		"more alike than there is":     "table 2 " + two + "\n0 ab 1 v\n3 c 1 v\n",
		"less alike than there is":     "table 2 " + two + "\n0 ab 1 v\n1 bc 1 v\n",
		"nothing alike":                "table 2 " + two + "\n0 ab 1 v\n0 abc 1 v\n",
		"many alike":                   "table 2 " + two + "\n0 ab 1 v\n99999999999999999999 c 1 v\n",
		"seq 0":                        "table 1 " + one + "\n0 ab 0 v\n",
		"no seq":                       "table 1 " + one + "\n0 ab  v\n",
		"seq with a nought":            "table 1 " + one + "\n0 ab 01 v\n",
		"seq with a sign":              "table 1 " + one + "\n0 ab +1 v\n",
		"seq with many figures":        "table 1 " + one + "\n0 ab 100000000 v\n",
		"a long value":                 "table 1 " + one + "\n0 ab 1 " + strings.Repeat("v", 81) + "\n",
		"a value below":                "table 1 " + one + "\n0 ab 1 \t\n",
		"a value above":                "table 1 " + one + "\n0 ab 1 \x7f\n",
		"an empty key":                 "table 1 " + plainBits("") + "\n0  1 v\n",
		"a long key":                   "table 1 " + plainBits(strings.Repeat("k", 25)) + "\n0 " + strings.Repeat("k", 25) + " 1 v\n",
		"a key with a colon":           "table 1 " + plainBits("a:") + "\n0 a: 1 v\n",
		"a key with a newline":         "table 1 " + plainBits("a\nb") + "\n0 a\nb 1 v\n",
		"keys descend":                 plainTable([]impl.Entry{{Key: "b", Seq: 1}, {Key: "a", Seq: 1}}),
		"moments ascend":               plainTable([]impl.Entry{{Key: "a", Seq: 1}, {Key: "a", Seq: 2}}),
		"one entry twice":              plainTable([]impl.Entry{{Key: "a", Seq: 1}, {Key: "a", Seq: 1}}),
		"keys that grow":               "table 9 " + one + "\n" + strings.Repeat("0 aaaaaaaa 1 v\n9 aaaaaaaa 1 v\n", 30000),
	}
}

// noTables are texts that are no tables, but look like some.
func noTables() map[string]string {
	some := plainTable(someEntries())
	texts := map[string]string{
		"too many entries":              plainTable(manyEntries(241)),
		"a byte too many":               plainTable(sizedEntries(7001)),
		"twice":                         some + some,
		"many newlines":                 strings.Repeat("\n", 100000),
		"alike at a step":               strings.Replace(plainTable(manyEntries(6)), "\n0 k1001 29", "\n5  29", 1),
		"all bytes but the first":       some[1:],
		"something ahead":               " " + some,
		"something behind":              some + "x",
		"an entry behind":               some + "0 z 1 v\n",
		"without the last byte":         strings.TrimSuffix(some, "\n"),
		"without the last line":         some[:len(some)-len("2  1 first\n")],
		"entries without the first row": strings.SplitN(some, "\n", 2)[1],
	}
	maps.Copy(texts, noTableHeads())
	maps.Copy(texts, noTableLines())
	return texts
}

func TestPromise18(t *testing.T) {
	c := chance(18)
	for n := range 60 {
		var keys []string
		for range n {
			keys = append(keys, c.text(c.next(30)))
		}
		bits := impl.BloomMake(keys)
		if bits != plainBits(keys...) {
			t.Fatalf("%d keys: %s", n, bits)
		}
		for i, key := range keys {
			for _, some := range [][]string{keys[:i+1], keys[i:], {key}, {key, key}} {
				if !impl.BloomMay(impl.BloomMake(some), key) {
					t.Errorf("%q is told not to be among %q", key, some)
				}
			}
		}
	}
	if impl.BloomMake(nil) != "0000000000000000" || impl.BloomMake([]string{}) != "0000000000000000" {
		t.Error("bits of no keys")
	}
	for range 200 {
		if key := c.text(c.next(30)); impl.BloomMay("0000000000000000", key) {
			t.Errorf("%q is among none", key)
		}
	}
}

// Each key's bits, all but one of them, and all but these.
func TestBloomMay(t *testing.T) {
	for i := range 300 {
		key := fmt.Sprint("key", i)
		sum := sha256.Sum256([]byte(key))
		for bit := range 64 {
			all, one := ^uint64(0)&^(1<<(63-bit)), uint64(1)<<(63-bit)
			has := false
			only := true
			for _, b := range sum[:3] {
				has = has || int(b%64) == bit
				only = only && int(b%64) == bit
			}
			if impl.BloomMay(fmt.Sprintf("%016x", all), key) == has || impl.BloomMay(fmt.Sprintf("%016x", one), key) != only {
				t.Errorf("%s: bit %d", key, bit)
			}
		}
		if !impl.BloomMay(plainBits(key), key) || !impl.BloomMay("ffffffffffffffff", key) {
			t.Error(key)
		}
	}
}

func TestBloomBadBits(t *testing.T) {
	for _, bits := range []string{
		"", "x", "0", "000000000000000", "00000000000000000", "000000000000000g", "g000000000000000", "000000000000000A", "0000000A00000000",
		" 000000000000000", "00000000 0000000", "00000000:0000000", "00000000/0000000", "00000000`0000000", "-000000000000000", "000000000000000\n",
		"0x00000000000000", "\x00\x00\x00\x00\x00\x00\x00\x00\x00\x00\x00\x00\x00\x00\x00\x00", "\xd9\xa0\xd9\xa0\xd9\xa0\xd9\xa0\xd9\xa0\xd9\xa0\xd9\xa0\xd9\xa0", strings.Repeat("0", 100000),
	} {
		for _, key := range []string{"", "a", "key"} {
			if !impl.BloomMay(bits, key) {
				t.Errorf("%.20q: %q is told not to be there", bits, key)
			}
		}
	}
}

func TestPromise19(t *testing.T) {
	for i, list := range tableLists() {
		text := impl.TableMake(list)
		if text != plainTable(list) {
			t.Fatalf("list %d: %q, not %q", i, text, plainTable(list))
		}
		if got, ok := impl.TableAll(text); !ok || !sameEntries(got, list) {
			t.Errorf("list %d: %v, not %v", i, got, list)
		}
	}
}

func TestTableForm(t *testing.T) {
	list := []impl.Entry{
		{Key: "s.ab", Seq: 12, Value: "v  w "}, {Key: "s.ab", Seq: 3, Dead: true}, {Key: "s.ab", Seq: 2}, {Key: "s.abc", Seq: 99999999, Value: "0 1"},
		{Key: "s.abd", Seq: 1, Dead: true}, {Key: "t", Seq: 1, Value: "x"},
	}
	want := "table 6 " + plainBits("s.ab", "s.abc", "s.abd", "t") + "\n0 s.ab 12 v  w \n4  3\n4  2 \n4 c 99999999 0 1\n0 s.abd 1\n0 t 1 x\n"
	if text := impl.TableMake(list); text != want {
		t.Errorf("%q", text)
	}
	if text := impl.TableMake(nil); text != "table 0 0000000000000000\n" {
		t.Errorf("%q of nothing", text)
	}
}

func TestTableMakeRefuses(t *testing.T) {
	for name, list := range badLists() {
		mustPanicNot(t, name, func() {
			if text := impl.TableMake(list); text != "" {
				t.Errorf("%s: %.50q", name, text)
			}
		})
	}
	for size := 6990; size < 7020; size++ {
		list := sizedEntries(size)
		text := impl.TableMake(list)
		if !impl.EntriesOk(list) || size <= 7000 && len(text) != size || size > 7000 && text != "" {
			t.Errorf("%d bytes: %d", size, len(text))
		}
	}
	long := manyEntries(240)
	for i := range long {
		long[i].Dead, long[i].Value = false, strings.Repeat("v", 80)
	}
	if text := impl.TableMake(long); text != "" {
		t.Errorf("%d bytes", len(text))
	}
}

func TestNoTable(t *testing.T) {
	for name, text := range noTables() {
		mustPanicNot(t, name, func() {
			if list, ok := impl.TableAll(text); ok || len(list) != 0 {
				t.Errorf("%s: %v", name, list)
			}
			if starts := impl.TableStarts(text); len(starts) != 0 {
				t.Errorf("%s: starts at %q", name, starts)
			}
			for _, key := range append(someKeys(), strings.Repeat("k", 25), "a\nb", "k1000") {
				for _, seq := range []int{1, 2, 9, 30, math.MaxInt} {
					if s, found, dead := impl.TableGet(text, key, seq); s != "" || found || dead {
						t.Errorf("%s: %q at %d: %q, %v and %v", name, key, seq, s, found, dead)
					}
				}
			}
		})
	}
}

// What is read is what is written, of a table of which some bytes are others, are not there, or come twice.
func TestPromise19AnyText(t *testing.T) {
	for _, list := range [][]impl.Entry{nil, someEntries(), someEntries()[5:8], manyEntries(9)} {
		whole := impl.TableMake(list)
		try := func(text string) {
			got, ok := impl.TableAll(text)
			if ok != (text == whole) && (!ok || plainTable(got) != text || !impl.EntriesOk(got)) || !ok && len(got) != 0 {
				t.Errorf("%q: %v", text, got)
			}
		}
		for at := range whole {
			try(whole[:at])
			try(whole[at+1:])
			try(whole[:at] + whole[at+1:])
			for _, b := range []byte("\x00\n\r 019.:a~t-") {
				try(whole[:at] + string([]byte{b}) + whole[at+1:])
				try(whole[:at] + string([]byte{b}) + whole[at:])
			}
			if at > 0 && whole[at-1] == '\n' {
				end := at + strings.Index(whole[at:], "\n") + 1
				try(whole[:at] + whole[at:end] + whole[at:])
				try(whole[:at] + whole[end:])
				try(whole[:at] + whole[end:] + whole[at:end])
			}
		}
	}
}

func TestPromise19AnyBytes(t *testing.T) {
	c := chance(20)
	for range 3000 {
		var text strings.Builder
		text.WriteString("table ")
		for range c.next(40) {
			text.WriteByte(" \n012ab"[c.next(7)])
		}
		mustPanicNot(t, text.String(), func() {
			if list, ok := impl.TableAll(text.String()); ok && plainTable(list) != text.String() {
				t.Errorf("%q: %v", text.String(), list)
			}
		})
	}
}

func TestPromise20(t *testing.T) {
	for _, list := range tableLists() {
		text := impl.TableMake(list)
		all, _ := impl.TableAll(text)
		for _, key := range append(someKeys(), "k1000", "k1079", "k1080", strings.Repeat("k", 23)+"c", "aa", "m") {
			for _, seq := range []int{math.MinInt, 0, 1, 2, 3, 5, 7, 9, 28, 29, 30, impl.SeqMax, math.MaxInt} {
				e, there := plainAt(list, key, seq)
				value, found, dead := impl.TableGet(text, key, seq)
				if value != e.Value || found != there || dead != e.Dead {
					t.Fatalf("%v: %s at %d: %q, %v and %v", list, key, seq, value, found, dead)
				}
				if s, ok := impl.MemGet(all, key, seq); s != value || ok != (found && !dead) {
					t.Errorf("%v: %s at %d: MemGet tells %q and %v", list, key, seq, s, ok)
				}
			}
		}
	}
}

// Keys that are not there, of which all bits are set.
func TestPromise20AllBits(t *testing.T) {
	text := impl.TableMake(manyEntries(240))
	bits := strings.Fields(text)[2]
	tried := 0
	for i := range 2000 {
		key := fmt.Sprint("k1000.", i)
		if !impl.BloomMay(bits, key) {
			continue
		}
		tried++
		if s, found, dead := impl.TableGet(text, key, 30); s != "" || found || dead {
			t.Errorf("%s: %q, %v and %v", key, s, found, dead)
		}
	}
	if tried < 10 {
		t.Error("too few keys were tried")
	}
}

func TestPromise21(t *testing.T) {
	for _, list := range tableLists() {
		var want []string
		for place := 0; place < len(list); place += impl.TableStep {
			want = append(want, list[place].Key)
		}
		starts := impl.TableStarts(impl.TableMake(list))
		if !sameTexts(starts, want) {
			t.Errorf("%v: %q", list, starts)
		}
		for i := 1; i < len(starts); i++ {
			if starts[i] < starts[i-1] {
				t.Errorf("%v: %q descends", list, starts)
			}
		}
	}
	if starts := impl.TableStarts(plainTable(someEntries())); !sameTexts(starts, []string{"a", "a.b", "ab", "b."}) {
		t.Errorf("%q", starts)
	}
}

func TestPromise22(t *testing.T) {
	for _, list := range tableLists() {
		most := 40
		for _, e := range list {
			most += len(e.Key) + len(e.Value) + 20
		}
		if text := impl.TableMake(list); text == "" || len(text) > most {
			t.Errorf("%v: %d bytes", list, len(text))
		}
	}
	// Keys that are alike, and long, are written once in each step.
	list := manyEntries(240)
	for i := range list {
		list[i].Key = strings.Repeat("k", 19) + list[i].Key
	}
	if text := impl.TableMake(list); text == "" || len(text) > len(impl.TableMake(manyEntries(240)))+240*8 {
		t.Errorf("%d bytes", len(text))
	}
}

// What is answered shares no memory with what was asked, and what was asked stays, with the room behind its end.
func TestTableMemory(t *testing.T) {
	room := append(someEntries(), impl.Entry{Key: "behind", Seq: 77})
	text := impl.TableMake(room[:len(room)-1])
	keys := []string{"a", "b", "behind"}
	impl.BloomMake(keys[:2:3])
	if !sameEntries(room, append(someEntries(), impl.Entry{Key: "behind", Seq: 77})) || !sameTexts(keys, []string{"a", "b", "behind"}) {
		t.Error("an argument is changed")
	}
	one, _ := impl.TableAll(text)
	one[0].Key = "spoilt"
	starts := impl.TableStarts(text)
	starts[0] = "spoilt"
	if two, ok := impl.TableAll(text); !ok || !sameEntries(two, someEntries()) || impl.TableStarts(text)[0] != "a" {
		t.Error("two answers share memory")
	}
}
