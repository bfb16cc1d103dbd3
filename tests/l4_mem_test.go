package tests

import (
	"math"
	"slices"
	"sort"
	"strconv"
	"strings"
	"testing"

	"loop.example/muniment/impl"
)

// someEntries has keys that begin alike, values that are empty, and some that are nothing: the newest, the oldest, and all that a key has.
func someEntries() []impl.Entry {
	return []impl.Entry{
		{Key: "a", Seq: 9, Value: "nine"}, {Key: "a", Seq: 5, Dead: true}, {Key: "a", Seq: 2, Value: ""},
		{Key: "a.b", Seq: 9, Dead: true}, {Key: "a.b", Seq: 3, Value: "three"},
		{Key: "a.bc", Seq: 4, Value: ""},
		{Key: "a.bcd", Seq: 7, Dead: true},
		{Key: "ab", Seq: 6, Value: "v w"}, {Key: "ab", Seq: 1, Dead: true},
		{Key: "b", Seq: 8, Dead: true}, {Key: "b", Seq: 4, Dead: true}, {Key: "b", Seq: 3, Value: " "},
		{Key: "b.", Seq: impl.SeqMax, Value: "last"}, {Key: "b.", Seq: 1, Value: "first"},
	}
}

// someKeys are the keys of someEntries and of anyEntries, and others, some of which begin like these.
func someKeys() []string {
	return []string{"", "a", "a.", "a.b", "a.bc", "a.bcd", "a.bcde", "aa", "ab", "abc", "b", "b.", "b..", "c", "~", "a b", "b:", "z\n"}
}

// moments are those around each Seq of someEntries and of anyEntries, and far off.
func moments() []int {
	return []int{math.MinInt, -1, 0, 1, 2, 3, 4, 5, 6, 7, 8, 9, 10, impl.SeqMax - 1, impl.SeqMax, impl.SeqMax + 1, math.MaxInt}
}

// manyEntries are so many entries, of a third as many keys.
func manyEntries(n int) []impl.Entry {
	var list []impl.Entry
	for i := range n {
		key := "k" + strconv.Itoa(1000+i/3)
		list = append(list, impl.Entry{Key: key, Seq: 30 - i%3, Dead: i%4 == 1})
	}
	return list
}

// anyEntries are entries that are ok, of few keys and moments, so that much is alike.
func anyEntries(c *chance) []impl.Entry {
	keys := []string{"a", "a.b", "a.bc", "ab", "b", "b.", "~"}
	var list []impl.Entry
	for range c.next(30) {
		e := impl.Entry{Key: keys[c.next(len(keys))], Seq: 1 + c.next(9), Dead: c.next(3) == 0}
		if !e.Dead {
			e.Value = strings.Repeat("v", c.next(4))
		}
		list = plainPut(list, e)
	}
	return list
}

// plainPut is entries with one more, unless there is one in its place.
func plainPut(list []impl.Entry, e impl.Entry) []impl.Entry {
	for _, other := range list {
		if other.Key == e.Key && other.Seq == e.Seq {
			return list
		}
	}
	list = append(append([]impl.Entry(nil), list...), e)
	sort.Slice(list, func(i, j int) bool {
		if list[i].Key != list[j].Key {
			return list[i].Key < list[j].Key
		}
		return list[i].Seq > list[j].Seq
	})
	return list
}

// plainAt is the entry with the greatest Seq that is not above a moment.
func plainAt(list []impl.Entry, key string, seq int) (impl.Entry, bool) {
	best, found := impl.Entry{}, false
	for _, e := range list {
		if e.Key == key && e.Seq <= seq && (!found || e.Seq > best.Seq) {
			best, found = e, true
		}
	}
	return best, found
}

// plainTrim is entries without those that can go.
func plainTrim(list []impl.Entry, floor int, bottom bool) []impl.Entry {
	var kept []impl.Entry
	for _, e := range list {
		goes := bottom && e.Dead && e.Seq <= floor
		for _, other := range list {
			goes = goes || other.Key == e.Key && other.Seq > e.Seq && other.Seq <= floor
		}
		if !goes {
			kept = append(kept, e)
		}
	}
	return kept
}

// sameEntries says whether two lists have the same entries; no list is an empty one.
func sameEntries(a, b []impl.Entry) bool {
	return slices.Equal(a, b)
}

// goodEntries are single entries that are ok, each at a limit.
func goodEntries() []impl.Entry {
	return []impl.Entry{
		{Key: "m", Seq: 50},
		{Key: "m", Seq: 50, Dead: true},
		{Key: ".", Seq: 1},
		{Key: "/09;@AZ[az{|}~", Seq: impl.SeqMax},
		{Key: strings.Repeat("k", 24), Seq: 1, Value: strings.Repeat("v", 80)},
		{Key: "m", Seq: 50, Value: " "},
		{Key: "m", Seq: 50, Value: " !-:~ "},
	}
}

// badEntries are single entries that are not ok, each for one reason.
func badEntries() map[string]impl.Entry {
	return map[string]impl.Entry{
		"nothing":            {},
		"an empty key":       {Seq: 50},
		"a long key":         {Key: strings.Repeat("k", 25), Seq: 50},
		"a key of colons":    {Key: "m:n", Seq: 50},
		"a key with a blank": {Key: "m n", Seq: 50},
		"a key below":        {Key: "m-", Seq: 50},
		"a key above":        {Key: "m\x7f", Seq: 50},
		"a key far above":    {Key: "m\xff", Seq: 50},
		"seq 0":              {Key: "m"},
		"seq below":          {Key: "m", Seq: -1},
		"seq far below":      {Key: "m", Seq: math.MinInt},
		"seq above":          {Key: "m", Seq: impl.SeqMax + 1},
		"seq far above":      {Key: "m", Seq: math.MaxInt},
		"a long value":       {Key: "m", Seq: 50, Value: strings.Repeat("v", 81)},
		"a value below":      {Key: "m", Seq: 50, Value: "\x1f"},
		"a value above":      {Key: "m", Seq: 50, Value: "v\x7f"},
		"a newline":          {Key: "m", Seq: 50, Value: "v\n"},
		"a dead value":       {Key: "m", Seq: 50, Dead: true, Value: "v"},
	}
}

// badLists are lists that are not ok, each for one reason.
func badLists() map[string][]impl.Entry {
	lists := map[string][]impl.Entry{
		"keys descend":                        {{Key: "b", Seq: 1}, {Key: "a", Seq: 2}},
		"a longer key ahead of its beginning": {{Key: "ab", Seq: 1}, {Key: "a", Seq: 1}},
		"moments ascend":                      {{Key: "a", Seq: 1}, {Key: "a", Seq: 2}},
		"one moment twice":                    {{Key: "a", Seq: 1}, {Key: "a", Seq: 1, Dead: true}},
		"one entry twice":                     {{Key: "a", Seq: 1}, {Key: "a", Seq: 1}},
		"a key comes again":                   {{Key: "a", Seq: 2}, {Key: "b", Seq: 2}, {Key: "a", Seq: 1}},
		"one too many":                        manyEntries(241),
		"many too many":                       manyEntries(5000),
	}
	for name, e := range badEntries() {
		lists[name] = []impl.Entry{e}
		lists[name+", behind others"] = []impl.Entry{{Key: ".", Seq: 1}, {Key: ".", Seq: 1, Value: "x"}, e}[1:]
	}
	return lists
}

func TestEntriesOk(t *testing.T) {
	for i, list := range [][]impl.Entry{nil, {}, someEntries(), manyEntries(239), manyEntries(240)} {
		if !impl.EntriesOk(list) {
			t.Errorf("list %d", i)
		}
	}
	for i, e := range goodEntries() {
		if !impl.EntriesOk([]impl.Entry{e}) {
			t.Errorf("entry %d: %v", i, e)
		}
	}
	for name, list := range badLists() {
		if impl.EntriesOk(list) {
			t.Error(name)
		}
	}
}

func TestEntriesOkBytes(t *testing.T) {
	for b := range 256 {
		one := string([]byte{byte(b)})
		key := b >= '.' && b <= '~' && b != ':'
		value := b >= ' ' && b <= '~'
		for _, text := range []string{one, "m" + one, one + "m", "mm" + one + "m"} {
			if impl.EntriesOk([]impl.Entry{{Key: text, Seq: 1}}) != key {
				t.Errorf("key %q", text)
			}
			if impl.EntriesOk([]impl.Entry{{Key: "m", Seq: 1, Value: text}}) != value {
				t.Errorf("value %q", text)
			}
		}
	}
}

func TestBadListIsNothing(t *testing.T) {
	for name, list := range badLists() {
		mustPanicNot(t, name, func() {
			key := "m"
			if len(list) > 0 {
				key = list[len(list)-1].Key
			}
			for _, seq := range moments() {
				if s, ok := impl.MemGet(list, key, seq); s != "" || ok {
					t.Errorf("%s: MemGet at %d: %q", name, seq, s)
				}
				if len(impl.MemScan(list, "", seq)) != 0 || len(impl.MemTrim(list, seq, true)) != 0 || len(impl.MemTrim(list, seq, false)) != 0 {
					t.Errorf("%s: something at %d", name, seq)
				}
			}
			for _, other := range [][]impl.Entry{nil, someEntries(), list} {
				if l, ok := impl.MemJoin(list, other); len(l) != 0 || ok {
					t.Errorf("%s: joined ahead", name)
				}
				if l, ok := impl.MemJoin(other, list); len(l) != 0 || ok {
					t.Errorf("%s: joined behind", name)
				}
			}
			if l, ok := impl.MemPut(list, impl.Entry{Key: "y", Seq: 3}); !sameEntries(l, list) || ok {
				t.Errorf("%s: put", name)
			}
		})
	}
}

func TestMemPutRefuses(t *testing.T) {
	for name, e := range badEntries() {
		for _, list := range [][]impl.Entry{nil, someEntries(), manyEntries(240)} {
			if l, ok := impl.MemPut(list, e); ok || !sameEntries(l, list) {
				t.Errorf("%s: put into %d", name, len(list))
			}
		}
	}
	for _, e := range someEntries() {
		for _, again := range []impl.Entry{e, {Key: e.Key, Seq: e.Seq, Dead: !e.Dead}, {Key: e.Key, Seq: e.Seq, Value: "other"}} {
			if l, ok := impl.MemPut(someEntries(), again); ok || !sameEntries(l, someEntries()) {
				t.Errorf("%v is put again", again)
			}
		}
	}
}

func TestMemPutRoom(t *testing.T) {
	for _, e := range []impl.Entry{{Key: ".", Seq: 1}, {Key: "k1040", Seq: 99}, {Key: "k1040", Seq: 1}, {Key: "z", Seq: 1}} {
		full := manyEntries(240)
		if l, ok := impl.MemPut(full, e); ok || !sameEntries(l, full) {
			t.Errorf("%v is put where there is no room", e)
		}
		most := manyEntries(239)
		if l, ok := impl.MemPut(most, e); !ok || !sameEntries(l, plainPut(most, e)) || !impl.EntriesOk(l) {
			t.Errorf("%v is not put where there is room", e)
		}
	}
}

// mustPut checks what an entry that is put changes, and what it does not.
func mustPut(t *testing.T, list []impl.Entry, e impl.Entry) {
	t.Helper()
	after, ok := impl.MemPut(list, e)
	if !ok || !sameEntries(after, plainPut(list, e)) || !impl.EntriesOk(after) {
		t.Fatalf("%v: %v", e, after)
	}
	if s, ok := impl.MemGet(after, e.Key, e.Seq); s != e.Value || ok == e.Dead {
		t.Errorf("%v: %q and %v at its moment", e, s, ok)
	}
	for _, key := range append(someKeys(), e.Key) {
		for _, seq := range append(moments(), e.Seq-1, e.Seq, e.Seq+1) {
			was, had := impl.MemGet(list, key, seq)
			if key == e.Key && seq >= e.Seq {
				if newest, _ := plainAt(after, key, seq); newest == e {
					was, had = e.Value, !e.Dead
				}
			}
			if s, ok := impl.MemGet(after, key, seq); s != was || ok != had {
				t.Errorf("%v: %s at %d is %q and %v", e, key, seq, s, ok)
			}
		}
	}
}

func TestPromise12(t *testing.T) {
	for _, key := range []string{".", "a", "a.", "a.b", "a.bc", "a.bcd", "a.bcde", "aa", "ab", "b", "b.", "b..", "~"} {
		for _, seq := range []int{1, 2, 3, 5, 8, 9, 10, impl.SeqMax} {
			if e, found := plainAt(someEntries(), key, seq); found && e.Seq == seq {
				continue
			}
			mustPut(t, someEntries(), impl.Entry{Key: key, Seq: seq, Value: "new"})
			mustPut(t, someEntries(), impl.Entry{Key: key, Seq: seq})
			mustPut(t, someEntries(), impl.Entry{Key: key, Seq: seq, Dead: true})
		}
	}
	for _, e := range goodEntries() {
		mustPut(t, someEntries(), e)
		mustPut(t, nil, e)
	}
}

func TestMemGet(t *testing.T) {
	for _, c := range []struct {
		key  string
		seq  int
		want string
		ok   bool
	}{
		{"a", 1, "", false}, {"a", 2, "", true}, {"a", 4, "", true}, {"a", 5, "", false}, {"a", 8, "", false}, {"a", 9, "nine", true}, {"a", math.MaxInt, "nine", true},
		{"a.b", 2, "", false}, {"a.b", 3, "three", true}, {"a.b", 9, "", false}, {"a.bc", 3, "", false}, {"a.bc", 4, "", true}, {"a.bcd", 99, "", false},
		{"ab", 1, "", false}, {"ab", 6, "v w", true}, {"b", 3, " ", true}, {"b", 4, "", false}, {"b", 8, "", false},
		{"b.", 0, "", false}, {"b.", 1, "first", true}, {"b.", impl.SeqMax - 1, "first", true}, {"b.", impl.SeqMax, "last", true}, {"b.", impl.SeqMax + 1, "last", true},
		{"", 9, "", false}, {"a.", 9, "", false}, {"abc", 9, "", false}, {"c", 9, "", false}, {"a", math.MinInt, "", false}, {"a:", 9, "", false},
	} {
		if s, ok := impl.MemGet(someEntries(), c.key, c.seq); s != c.want || ok != c.ok {
			t.Errorf("%s at %d: %q and %v", c.key, c.seq, s, ok)
		}
	}
}

func TestMemGetAny(t *testing.T) {
	c := chance(12)
	for range 200 {
		list := anyEntries(&c)
		for _, key := range someKeys() {
			for _, seq := range moments() {
				e, found := plainAt(list, key, seq)
				if s, ok := impl.MemGet(list, key, seq); s != e.Value || ok != (found && !e.Dead) {
					t.Fatalf("%v: %s at %d is %q and %v", list, key, seq, s, ok)
				}
			}
		}
	}
}

func TestPromise13(t *testing.T) {
	c := chance(13)
	for round := range 40 {
		want := someEntries()
		if round%2 == 1 {
			want = manyEntries(240)
		}
		order := append([]impl.Entry(nil), want...)
		for i := range order {
			j := i + c.next(len(order)-i)
			order[i], order[j] = order[j], order[i]
		}
		var list []impl.Entry
		for _, e := range order {
			next, ok := impl.MemPut(list, e)
			if !ok {
				t.Fatalf("%v is not put", e)
			}
			list = next
		}
		if !sameEntries(list, want) {
			t.Fatalf("round %d: %v", round, list)
		}
	}
}

// Two that can be put in one behind the other, at the limit of room too.
func TestPromise13Two(t *testing.T) {
	pairs := append(append(goodEntries(), someEntries()...), impl.Entry{Key: "k1001", Seq: 7}, impl.Entry{Key: "k1001", Seq: 8, Dead: true})
	for _, list := range [][]impl.Entry{nil, someEntries()[:3], manyEntries(237), manyEntries(238), manyEntries(239)} {
		for _, one := range pairs {
			for _, two := range pairs {
				a, ok := impl.MemPut(list, one)
				b, both := impl.MemPut(a, two)
				c, ok2 := impl.MemPut(list, two)
				d, both2 := impl.MemPut(c, one)
				if (ok && both) != (ok2 && both2) || ok && both && !sameEntries(b, d) {
					t.Errorf("%d entries: %v and %v", len(list), one, two)
				}
			}
		}
	}
}

// mustScan checks that a look at many is a look at each of all keys.
func mustScan(t *testing.T, list []impl.Entry, prefix string, seq int) {
	t.Helper()
	var want []impl.Entry
	told := map[string]bool{}
	for _, e := range list {
		if told[e.Key] || !strings.HasPrefix(e.Key, prefix) {
			continue
		}
		told[e.Key] = true
		if value, ok := impl.MemGet(list, e.Key, seq); ok {
			newest, _ := plainAt(list, e.Key, seq)
			want = append(want, impl.Entry{Key: e.Key, Seq: newest.Seq, Value: value})
		}
	}
	if got := impl.MemScan(list, prefix, seq); !sameEntries(got, want) {
		t.Errorf("%q at %d: %v, not %v", prefix, seq, got, want)
	}
}

func TestPromise14(t *testing.T) {
	c := chance(14)
	lists := [][]impl.Entry{nil, someEntries(), manyEntries(240)}
	for range 100 {
		lists = append(lists, anyEntries(&c))
	}
	for _, list := range lists {
		for _, prefix := range append(someKeys(), "k", "k1", "k107", "k1079", "k10799", strings.Repeat("a", 99), "\xff") {
			for _, seq := range append(moments(), 28, 29, 30) {
				mustScan(t, list, prefix, seq)
			}
		}
	}
}

func TestMemScan(t *testing.T) {
	for _, c := range []struct {
		prefix string
		seq    int
		want   []impl.Entry
	}{
		{"", 0, nil},
		{"", 1, []impl.Entry{{Key: "b.", Seq: 1, Value: "first"}}},
		{"a", 4, []impl.Entry{{Key: "a", Seq: 2}, {Key: "a.b", Seq: 3, Value: "three"}, {Key: "a.bc", Seq: 4}}},
		{"a.b", 9, []impl.Entry{{Key: "a.bc", Seq: 4}}},
		{"a.bcd", 9, nil},
		{"b", 8, []impl.Entry{{Key: "b.", Seq: 1, Value: "first"}}},
		{"b.", math.MaxInt, []impl.Entry{{Key: "b.", Seq: impl.SeqMax, Value: "last"}}},
		{"c", 9, nil},
	} {
		if got := impl.MemScan(someEntries(), c.prefix, c.seq); !sameEntries(got, c.want) {
			t.Errorf("%q at %d: %v", c.prefix, c.seq, got)
		}
	}
}

// mustJoin checks what two lists together have.
func mustJoin(t *testing.T, a, b []impl.Entry) {
	t.Helper()
	want := a
	for _, e := range b {
		want = plainPut(want, e)
	}
	joined, ok := impl.MemJoin(a, b)
	if len(want) > 240 {
		if ok || len(joined) != 0 {
			t.Errorf("%d entries are joined", len(want))
		}
		return
	}
	if !ok || !sameEntries(joined, want) || !impl.EntriesOk(joined) || len(joined) < max(len(a), len(b)) {
		t.Fatalf("%v and %v: %v", a, b, joined)
	}
	if again, ok := impl.MemJoin(joined, b); !ok || !sameEntries(again, joined) {
		t.Errorf("%v and %v: joined again %v", a, b, again)
	}
	for _, key := range someKeys() {
		for _, seq := range moments() {
			newer, _ := plainAt(a, key, seq)
			if e, found := plainAt(b, key, seq); found && e.Seq > newer.Seq {
				newer = e
			}
			if s, ok := impl.MemGet(joined, key, seq); s != newer.Value || ok != (newer.Seq > 0 && !newer.Dead) {
				t.Errorf("%v and %v: %s at %d is %q", a, b, key, seq, s)
			}
		}
	}
}

func TestPromise15(t *testing.T) {
	c := chance(15)
	for range 200 {
		mustJoin(t, anyEntries(&c), anyEntries(&c))
	}
	some := someEntries()
	for cut := range len(some) + 1 {
		mustJoin(t, some[:cut], some[cut:])
		mustJoin(t, some[cut:], some[:cut])
		mustJoin(t, some, some[:cut])
		mustJoin(t, some[:cut], some)
	}
	// Of one Key and Seq the first list's is taken.
	other := []impl.Entry{{Key: "a", Seq: 9, Dead: true}, {Key: "a.b", Seq: 9, Value: "here"}}
	mustJoin(t, some, other)
	mustJoin(t, other, some)
}

func TestPromise15Room(t *testing.T) {
	full := manyEntries(240)
	mustJoin(t, full, nil)
	mustJoin(t, nil, full)
	mustJoin(t, full, full)
	mustJoin(t, full[:120], full[120:])
	mustJoin(t, full[100:], full[:140])
	mustJoin(t, full, []impl.Entry{{Key: "z", Seq: 1}})
	mustJoin(t, []impl.Entry{{Key: "a", Seq: 1}}, full)
	mustJoin(t, []impl.Entry{{Key: "a", Seq: 1}}, full[:239])
	mustJoin(t, full, someEntries())
}

// mustTrim checks that nobody who looks from a floor on sees a difference.
func mustTrim(t *testing.T, list []impl.Entry, floor int, bottom bool) {
	t.Helper()
	after := impl.MemTrim(list, floor, bottom)
	if !sameEntries(after, plainTrim(list, floor, bottom)) || !impl.EntriesOk(after) || len(after) > len(list) {
		t.Fatalf("%v, floor %d, bottom %v: %v", list, floor, bottom, after)
	}
	if !sameEntries(impl.MemTrim(after, floor, bottom), after) {
		t.Errorf("%v, floor %d, bottom %v: it does not stay", list, floor, bottom)
	}
	for _, seq := range moments() {
		if seq >= floor && !sameEntries(impl.MemScan(after, "", seq), impl.MemScan(list, "", seq)) {
			t.Errorf("%v, floor %d, bottom %v: another look at %d", list, floor, bottom, seq)
		}
	}
}

// trimLists are entries of which some can go.
func trimLists() [][]impl.Entry {
	c := chance(16)
	lists := [][]impl.Entry{nil, someEntries(), manyEntries(240)}
	for range 200 {
		lists = append(lists, anyEntries(&c))
	}
	return lists
}

func TestPromise16(t *testing.T) {
	for _, list := range trimLists() {
		for _, floor := range append(moments(), 28, 29, 30) {
			mustTrim(t, list, floor, false)
			mustTrim(t, list, floor, true)
		}
	}
}

func TestPromise17(t *testing.T) {
	for _, list := range trimLists() {
		for _, floor := range append(moments(), 28, 29, 30) {
			under := map[string]int{}
			for _, e := range impl.MemTrim(list, floor, true) {
				if e.Seq > floor {
					continue
				}
				under[e.Key]++
				if under[e.Key] > 1 || e.Dead {
					t.Errorf("%v, floor %d: %v is left at the bottom", list, floor, e)
				}
			}
		}
	}
}

func TestMemTrim(t *testing.T) {
	list := []impl.Entry{
		{Key: "a", Seq: 8, Value: "new"}, {Key: "a", Seq: 5, Dead: true}, {Key: "a", Seq: 3, Value: "old"},
		{Key: "ab", Seq: 5, Value: ""}, {Key: "ab", Seq: 4, Value: "older"},
	}
	for _, c := range []struct {
		floor  int
		bottom bool
		places []int
	}{
		{math.MinInt, true, []int{0, 1, 2, 3, 4}}, {0, true, []int{0, 1, 2, 3, 4}},
		{4, false, []int{0, 1, 2, 3, 4}}, {4, true, []int{0, 1, 2, 3, 4}},
		{5, false, []int{0, 1, 3}}, {5, true, []int{0, 3}},
		{7, false, []int{0, 1, 3}}, {7, true, []int{0, 3}},
		{8, false, []int{0, 3}}, {8, true, []int{0, 3}}, {math.MaxInt, true, []int{0, 3}},
	} {
		var want []impl.Entry
		for _, place := range c.places {
			want = append(want, list[place])
		}
		if got := impl.MemTrim(list, c.floor, c.bottom); !sameEntries(got, want) {
			t.Errorf("floor %d, bottom %v: %v", c.floor, c.bottom, got)
		}
	}
	// What can be seen ahead of the floor may be another thing, but not from the floor on.
	trimmed := impl.MemTrim(list, 5, true)
	if _, ok := impl.MemGet(trimmed, "a", 3); ok {
		t.Error("what is ahead of the floor is kept")
	}
	if _, ok := impl.MemGet(trimmed, "ab", 5); !ok {
		t.Error("a value that is empty is taken for nothing")
	}
}

// What is answered shares no memory with what was asked, and what was asked stays, with the room behind its end.
func TestMemMemory(t *testing.T) {
	behind := impl.Entry{Key: "behind", Seq: 77}
	room := append(someEntries(), behind)
	list := room[: len(room)-1 : len(room)]
	full := append(manyEntries(240), behind)
	other := []impl.Entry{{Key: "c", Seq: 4}, {Key: "d", Seq: 4}, behind}
	for name, do := range map[string]func() []impl.Entry{
		"put":          func() []impl.Entry { l, _ := impl.MemPut(list, impl.Entry{Key: "z", Seq: 1}); return l },
		"put again":    func() []impl.Entry { l, _ := impl.MemPut(list, list[0]); return l },
		"put bad":      func() []impl.Entry { l, _ := impl.MemPut(list, impl.Entry{}); return l },
		"put into bad": func() []impl.Entry { l, _ := impl.MemPut(room, impl.Entry{Key: "z", Seq: 1}); return l },
		"put no room":  func() []impl.Entry { l, _ := impl.MemPut(full[:240:241], impl.Entry{Key: "z", Seq: 1}); return l },
		"put at none":  func() []impl.Entry { l, _ := impl.MemPut(list[:0:len(room)], impl.Entry{}); return l },
		"scan":         func() []impl.Entry { return impl.MemScan(list, "", 9) },
		"join":         func() []impl.Entry { l, _ := impl.MemJoin(list, other[:2:3]); return l },
		"join nothing": func() []impl.Entry { l, _ := impl.MemJoin(list, nil); return l },
		"join to none": func() []impl.Entry { l, _ := impl.MemJoin(nil, other[:2:3]); return l },
		"trim":         func() []impl.Entry { return impl.MemTrim(list, 9, true) },
		"trim nothing": func() []impl.Entry { return impl.MemTrim(list, 0, true) },
	} {
		after := do()
		after = after[:cap(after)]
		for i := range after {
			after[i].Key = "spoilt"
		}
		if !sameEntries(room, append(someEntries(), behind)) || !sameEntries(full, append(manyEntries(240), behind)) || other[0].Key != "c" || other[1].Key != "d" || other[2] != behind {
			t.Fatalf("%s: an argument is changed", name)
		}
	}
}
