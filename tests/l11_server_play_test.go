package tests

import (
	"fmt"
	"math"
	"runtime"
	"slices"
	"strings"
	"sync"
	"testing"
	"time"

	"loop.example/muniment/impl"
)

// walkTexts are requests by chance that fit one another, some of them no requests, and what is answered.
func walkTexts(seed, steps int) ([]string, []string, impl.Model) {
	c := chance(seed)
	var list, said []string
	m := impl.ModelNew()
	for _, d := range walk(&c, fmt.Sprint(seed), steps) {
		text := impl.ReqWrite(d.r)
		if text == "" {
			text = noRequests()[c.next(len(noRequests()))]
		}
		list, said, m = append(list, text), append(said, d.said), d.x
	}
	return list, said, m
}

// heavyText is a request that changes much of a model that others made, of which it is the n-th.
func heavyText(m impl.Model, n int) string {
	spaces := []string{"abcdef", "bcdefg", "cdefgh", "defghi", "efghij", "fghijk"}
	switch {
	case len(m.Spaces) <= len(spaces):
		at := len(m.Spaces) - 1
		return fmt.Sprint("space ", spaces[at], " ", append([]string{"all"}, spaces...)[at], " 9999")
	case len(m.Things) < impl.ThingsMax:
		at := len(m.Things)
		return fmt.Sprintf("put %s x%s %s", spaces[at%6], strings.Repeat(string(rune('a'+at)), 5), letters(40))
	}
	x := m.Things[n*7%len(m.Things)]
	return fmt.Sprint("set ", x.Space, " ", x.Name, " ", x.Rev, " ", letters(39+n%2))
}

// heavyTexts are requests that change much, so that a store is tended often.
func heavyTexts(steps int) []string {
	var list []string
	m := impl.ModelNew()
	for n := range steps {
		text := heavyText(m, n)
		m, _ = plainAsk(m, text)
		list = append(list, text)
	}
	return list
}

func TestPromise63(t *testing.T) {
	lists := map[string][]string{"nothing": nil, "one": {"space a all 5"}, "no requests": noRequests(), "heavy": heavyTexts(100), "the base": baseTexts()}
	for seed := range 8 {
		list, said, m := walkTexts(630+seed, 100)
		lists[fmt.Sprint("walk ", seed)] = list
		x, answers := impl.ServerModel(list)
		if !sameTexts(answers, said) || !sameModel(x, m) {
			t.Errorf("walk %d: %q, not %q", seed, answers, said)
		}
	}
	for what, list := range lists {
		m, want := impl.ServerModel(list)
		s, got := impl.ServerPlay(asksOf(list))
		if !sameTexts(got, want) || !sameModel(s.Model, m) || !impl.ServerOk(s) || len(got) != len(list) {
			t.Errorf("%s: %q, not %q", what, got, want)
		}
		if x, ok := impl.ServerOpen(s.Store.Disk); !ok || !sameServer(x, s) {
			t.Errorf("%s: opened %v", what, x)
		}
		if what == "heavy" && (s.Store.Floor == 0 || s.Store.Turn < 8) {
			t.Errorf("it was not tended: %v", s.Store.Turn)
		}
	}
}

// ServerModel is ModelDo of each, and `no bad` of what is no request.
func TestServerModel(t *testing.T) {
	m, said := impl.ServerModel([]string{"space a all 30", "put a x first", "what", "put a x first", "", "get a x", "flush", "crash 0 0 step", "limit a 05", "drop a x"})
	if want := []string{"ok 1", "ok 2", "no bad", "no there", "no bad", "thing 1 2 here - first", "no bad", "no bad", "no bad", "ok 3"}; !sameTexts(said, want) || m.Rev != 3 || len(m.Things) != 0 {
		t.Errorf("%q", said)
	}
	m, said = impl.ServerModel(nil)
	if len(said) != 0 || !sameModel(m, impl.ModelNew()) {
		t.Errorf("%q, %v", said, m)
	}
}

// As many as PlayMax are played, and none behind them.
func TestServerPlayMax(t *testing.T) {
	for _, n := range []int{99, 100, 101, 250} {
		var list []string
		for at := range n {
			list = append(list, fmt.Sprint("limit all ", at))
		}
		few := min(n, 100)
		m, said := impl.ServerModel(list)
		s, got := impl.ServerPlay(asksOf(list))
		if len(said) != few || m.Rev != few || len(got) != few || s.Model.Rev != few || s.Model.Spaces[0].Limit != few-1 || m.Spaces[0].Limit != few-1 {
			t.Errorf("%d: %d, %d", n, len(said), len(got))
		}
		if board := impl.ServerSession(list); strings.Count(board, "\n") != few+2 || !strings.HasSuffix(board, fmt.Sprintf("ok %d\ncount %d\nall in - %d here %d uses 0\n", few, few, few-1, few)) {
			t.Errorf("%d: %q", n, board)
		}
		// Events that are not answered count as those that are.
		quiet := slices.Repeat([]impl.Event{{Kind: impl.PlayFlush}, {}, crash(-1, 0, "step"), crash(0, 0, "step")}, 15)
		s, got = impl.ServerPlay(append(quiet, asksOf(list)...))
		if left := 100 - len(quiet); len(got) != left || s.Model.Rev != left {
			t.Errorf("%d behind %d: %d", n, len(quiet), len(got))
		}
	}
}

// played is a play by chance: events, what is answered, and the server behind them, all told step by step.
type played struct {
	events  []impl.Event
	answers []string
	s       impl.Server
	cuts    [2]int // how many requests at which power was lost were not done, and were
}

// anyPlay is so many events by chance.
func anyPlay(t *testing.T, c *chance, steps int) played {
	t.Helper()
	p := played{s: impl.ServerNew()}
	kinds := []int{0, 1, 1, 1, 2, 3, 4, 4, 4, 4, 4, 4, 5, 5, 5, 6, 6, 7, 8, 9, 10, 11, 12, 12}
	for range steps {
		all := asks(p.s.Model, names(p.s.Model, []string{"a", "b", "c", "zz"}[c.next(4)]))
		kind := all[kinds[c.next(len(kinds))]]
		event := impl.Event{Kind: impl.PlayAsk, Text: impl.ReqWrite(kind[c.next(len(kind))]), Left: c.next(9) - 4, Mask: c.next(9) - 4}
		switch c.next(12) {
		case 0:
			event.Kind = impl.PlayFlush
		case 1:
			event.Kind = impl.PlayPack
		case 2:
			event.Kind = []int{0, 5, -1, 77, math.MaxInt, math.MinInt}[c.next(6)]
		case 3, 4, 5, 6, 7:
			event.Kind, event.Left, event.Mask = impl.PlayCrash, c.next(4)-c.next(2), c.next(64)-2
			if c.next(3) == 0 {
				event.Text, event.Left = []string{"flush", "pack", "what", ""}[c.next(4)], c.next(12)-1
			}
		}
		p.events = append(p.events, event)
		p.play(t, event)
	}
	return p
}

// play does one event, as the document says it.
func (p *played) play(t *testing.T, event impl.Event) {
	t.Helper()
	switch event.Kind {
	case impl.PlayAsk:
		x, said := plainDo(p.s, event.Text)
		// What is answered is what one machine answers that knows what was done.
		if m, want := plainAsk(p.s.Model, event.Text); said != want || !sameModel(x.Model, m) {
			t.Fatalf("%q: %q, not %q", event.Text, said, want)
		}
		p.s, p.answers = x, append(p.answers, said)
	case impl.PlayFlush:
		p.s.Store, _ = impl.StoreFlush(p.s.Store)
	case impl.PlayPack:
		p.s.Store, _ = impl.StorePack(p.s.Store)
	case impl.PlayCrash:
		if event.Left < 0 || event.Mask < 0 {
			return
		}
		x, ok := impl.ServerOpen(impl.DiskCrash(plainStop(p.s, event.Text, event.Left), event.Mask))
		after, _ := plainAsk(p.s.Model, event.Text)
		same := sameModel(x.Model, p.s.Model)
		if !ok || !same && !sameModel(x.Model, after) {
			t.Fatalf("%v: %v", event, x.Model)
		}
		if !sameModel(p.s.Model, after) {
			p.cuts[x.Model.Rev-p.s.Model.Rev]++
		}
		p.s = x
	}
}

func TestPromise64(t *testing.T) {
	c := chance(64)
	cuts := [2]int{}
	for n := range 60 {
		p := anyPlay(t, &c, []int{100, 100, 40, 7}[n%4])
		before := slices.Clone(p.events)
		s, answers := impl.ServerPlay(p.events)
		if !sameTexts(answers, p.answers) || !sameServer(s, p.s) || !impl.ServerOk(s) || !slices.Equal(before, p.events) {
			t.Fatalf("play %d: %q, not %q", n, answers, p.answers)
		}
		cuts[0], cuts[1] = cuts[0]+p.cuts[0], cuts[1]+p.cuts[1]
	}
	if cuts[0] < 20 || cuts[1] < 20 {
		t.Errorf("%v", cuts)
	}
}

// Power is lost in the tending ahead of a batch, or in the batch behind it, again and again.
func TestPromise64Heavy(t *testing.T) {
	c := chance(640)
	ends := map[string]int{}
	for range 8 {
		p := played{s: impl.ServerNew()}
		for n := range 100 {
			text := heavyText(p.s.Model, n)
			event := ask(text)
			if codeOf(p.s, text) == impl.StoreLog {
				event = crash(c.next(spends(p.s, text)+2), c.next(1<<20), text)
			}
			ahead := p.s
			p.events = append(p.events, event)
			p.play(t, event)
			if event.Kind == impl.PlayCrash {
				ends[fmt.Sprint("tended ", p.s.Store.Turn-ahead.Store.Turn, ", done ", p.s.Model.Rev-ahead.Model.Rev)]++
			}
		}
		s, answers := impl.ServerPlay(p.events)
		if !sameTexts(answers, p.answers) || !sameServer(s, p.s) || !impl.ServerOk(s) {
			t.Fatalf("%q, not %q", answers, p.answers)
		}
	}
	for _, what := range []string{"tended 0, done 0", "tended 1, done 0", "tended 1, done 1"} {
		if ends[what] < 3 || len(ends) != 3 {
			t.Errorf("%v", ends)
		}
	}
}

// What each kind of event does, and which parts of it are looked at.
func TestServerPlayKinds(t *testing.T) {
	base := asksOf(baseTexts())
	s, _ := impl.ServerPlay(base)
	if want := served(t, impl.ServerNew(), baseTexts()...); !sameServer(s, want) {
		t.Fatal("the base is another server")
	}
	opened := func(text string, left, mask int) impl.Server {
		x, _ := impl.ServerOpen(impl.ServerCut(s, text, left, mask))
		return x
	}
	for _, c := range []struct {
		event impl.Event
		want  impl.Server
	}{
		{impl.Event{Kind: impl.PlayFlush, Text: "drop a x", Left: -5, Mask: -5}, tended(t, s, false)},
		{impl.Event{Kind: impl.PlayPack, Text: "drop a x", Left: 5, Mask: 5}, tended(t, s, true)},
		{crash(0, 0, "drop a x"), s},
		{crash(1, 0, "drop a x"), opened("drop a x", 1, 0)},
		{crash(2, 3, "drop a x"), served(t, s, "drop a x")},
		{crash(99, 0, "drop a x"), served(t, s, "drop a x")},
		{crash(math.MaxInt, math.MaxInt, "drop a x"), served(t, s, "drop a x")},
		{crash(3, 5, "flush"), opened("flush", 3, 5)},
		{crash(99, 0, "flush"), tended(t, s, false)},
		{crash(99, 0, "pack"), tended(t, s, true)},
		{crash(99, 0, "crash 9 0 drop a x"), s},
		{crash(99, 0, "list a"), s},
		{crash(99, 0, ""), s},
		{crash(-1, 0, "drop a x"), s},
		{crash(5, -1, "drop a x"), s},
		{crash(math.MinInt, math.MinInt, "drop a x"), s},
		{impl.Event{Text: "drop a x"}, s},
		{impl.Event{Kind: 5, Text: "drop a x", Left: 99}, s},
		{impl.Event{Kind: -1, Text: "drop a x", Left: 99}, s},
		{impl.Event{Kind: math.MinInt, Text: "flush"}, s},
	} {
		x, answers := impl.ServerPlay(append(slices.Clone(base), c.event))
		if !sameServer(x, c.want) || len(answers) != len(base) {
			t.Errorf("%v: %v, %q", c.event, x.Store, answers)
		}
		x, answers = impl.ServerPlay(append(slices.Clone(base), c.event, ask("list all")))
		if !sameServer(x, c.want) || len(answers) != len(base)+1 || answers[len(base)] != fmt.Sprint("list - uses ", x.Model.Uses[1].Units) {
			t.Errorf("%v: then %q", c.event, answers)
		}
	}
	// What is asked may look like tending, and is none.
	x, answers := impl.ServerPlay([]impl.Event{ask("flush"), ask("pack"), ask("crash 1 0 step"), {Kind: impl.PlayAsk, Text: "step", Left: 0, Mask: -1}})
	if !sameServer(x, impl.ServerNew()) || !sameTexts(answers, []string{"no bad", "no bad", "no bad", "idle"}) {
		t.Errorf("%q", answers)
	}
	if x, answers := impl.ServerPlay(nil); !sameServer(x, impl.ServerNew()) || len(answers) != 0 {
		t.Errorf("nothing is played: %q", answers)
	}
}

// session is the example at the end of chapter 11: each line, and what is answered, if anything.
func session() [][2]string {
	return [][2]string{
		{"space a all 30", "ok 1"}, {"put a x first", "ok 2"}, {"put a y a longer body", "ok 3"}, {"put a z 12345678901234567890", "no limit a"}, {"limit a 60", "ok 4"}, {"put a z 12345678901234567890", "ok 5"},
		{"set a x 2 other", "ok 6"}, {"set a x 2 more", "no stale 6"}, {"mark a y k", "ok 7"}, {"flush", ""}, {"crash 1 0 drop a x", ""}, {"drop a x", "ok 8"}, {"crash 9 1 put b x body", ""}, {"space b a 5", "ok 9"},
		{"put b x body", "ok 10"}, {"put b y b", "no limit b"}, {"watch a 3", "past 4= 5+z 6=x 7=y 8-x"}, {"close a", "ok 11"}, {"put a q z", "no going"}, {"step", "ok 12"}, {"step", "ok 13"}, {"step", "ok 14"}, {"pack", ""},
		{"step", "ok 15"}, {"unmark a y k", "ok 16"}, {"step", "ok 17"}, {"step", "idle"}, {"list all", "list - uses 0"}, {"get a x", "no space"}, {"crash 4 7 pack", ""}, {"step", "idle"}, {"what", "no bad"},
	}
}

func TestServerExample(t *testing.T) {
	var lines []string
	want := ""
	for n, c := range session() {
		lines = append(lines, c[0])
		if c[1] != "" {
			want += c[1] + "\n"
		}
		if got := impl.ServerSession(lines); !strings.HasPrefix(got, want+"count ") {
			t.Fatalf("line %d, %q: %q", n, c[0], got)
		}
	}
	if got := impl.ServerSession(lines); got != want+"count 17\nall in - -1 here 0 uses 0\n" {
		t.Errorf("%q", got)
	}
}

// Lines that are a power cut, or look like one.
func TestServerLines(t *testing.T) {
	const board, dropped, more = "count 2\na in all 30 here 1 uses 2\n  x 1 2 here - b\nall in - -1 here 0 uses 2\n", "count 3\na in all 30 here 1 uses 0\nall in - -1 here 0 uses 0\n", "no bad\n"
	for line, want := range map[string]string{
		"flush": board, "pack": board, "flush ": more + board, " flush": more + board, "Pack": more + board, "pack a": more + board, "flush\n": more + board, "": more + board,
		"crash 9 0 drop a x": dropped, "crash 2 1 drop a x": dropped, "crash 1 1 drop a x": dropped, "crash 1 0 drop a x": board, "crash 0 1 drop a x": board, "crash 0 0 drop a x": board,
		"crash 99999999 99999999 drop a x": dropped, "crash 99999999 0 drop a x": dropped, "crash 100000000 0 drop a x": board, "crash 9 100000000 drop a x": board,
		"crash 09 0 drop a x": board, "crash 9 00 drop a x": board, "crash +9 0 drop a x": board, "crash -1 0 drop a x": board, "crash 9 -1 drop a x": board, "crash x 0 drop a x": board, "crash 9 x drop a x": board,
		"crash  0 drop a x": board, "crash 9  drop a x": board, "crash   drop a x": board, "crash 9 0  drop a x": board, "crash 9 0 drop a x ": board, "crash 9 0 ": board, "crash   ": board, "crash 9 0 what": board, "crash a b c": board,
		"crash 9 0 crash 9 0 drop a x": board, "crash 9 0 flush": board, "crash 1 0 pack": board, "crash 9 0 list a": board,
		"crash": more + board, "crash ": more + board, "crash 9": more + board, "crash 9 ": more + board, "crash 9 0": more + board, "crash 0 0": more + board, "crash x y": more + board,
		" crash 9 0 drop a x": more + board, "crashes 9 0 drop a x": more + board, "Crash 9 0 drop a x": more + board, "crash\t9 0 drop a x": more + board,
		"drop a x": "ok 3\n" + dropped, "drop a y": "no thing\n" + board, "get a x": "thing 1 2 here - b\n" + board,
	} {
		if got := impl.ServerSession([]string{"space a all 30", "put a x b", line}); got != "ok 1\nok 2\n"+want {
			t.Errorf("%q: %q", line, got)
		}
	}
	if got := impl.ServerSession(nil); got != "count 0\nall in - -1 here 0 uses 0\n" {
		t.Errorf("no lines: %q", got)
	}
}

// lineOf is an event as a line; what is no number above 0 is written as it is.
func lineOf(event impl.Event) (string, bool) {
	switch event.Kind {
	case impl.PlayAsk:
		return event.Text, event.Text != "flush" && event.Text != "pack" && !strings.HasPrefix(event.Text, "crash ")
	case impl.PlayFlush:
		return "flush", true
	case impl.PlayPack:
		return "pack", true
	case impl.PlayCrash:
		return fmt.Sprint("crash ", event.Left, " ", event.Mask, " ", event.Text), true
	}
	return "", false
}

func TestPromise73(t *testing.T) {
	c := chance(73)
	for n := range 10 {
		p := anyPlay(t, &c, 120)
		var lines []string
		var events []impl.Event
		for _, event := range p.events {
			if line, ok := lineOf(event); ok {
				lines, events = append(lines, line), append(events, event)
			}
		}
		before := slices.Clone(lines)
		q := played{s: impl.ServerNew()}
		for _, event := range events[:min(len(events), impl.PlayMax)] {
			q.play(t, event)
		}
		want := impl.ModelBoard(q.s.Model)
		for at := len(q.answers) - 1; at >= 0; at-- {
			want = q.answers[at] + "\n" + want
		}
		got := impl.ServerSession(lines)
		if got != want || !slices.Equal(lines, before) {
			t.Fatalf("session %d: %q, not %q", n, got, want)
		}
		if count := strings.Count(got, "\n"); count != len(q.answers)+1+len(q.s.Model.Spaces)+len(q.s.Model.Things) || len(q.answers) > len(lines) {
			t.Errorf("session %d: %d lines", n, count)
		}
	}
}

// All goroutines have ended when a call returns.
func TestServerGoroutines(t *testing.T) {
	before := runtime.NumGoroutine()
	for n := range 20 {
		impl.ServerPlay(asksOf(baseTexts()[:n%5]))
		impl.ServerPlay([]impl.Event{crash(-1, 0, ""), crash(3, 1, "limit all 5"), {}})
		impl.ServerSession(baseTexts())
		impl.ServerDo(impl.ServerNew(), "step")
	}
	for range 200 {
		if runtime.NumGoroutine() <= before {
			return
		}
		time.Sleep(10 * time.Millisecond)
	}
	t.Errorf("%d goroutines, not %d", runtime.NumGoroutine(), before)
}

// Plays at the same time, of the same events, have nothing to do with one another.
func TestServerAtOnce(t *testing.T) {
	list := append(asksOf(baseTexts()), impl.Event{Kind: impl.PlayFlush}, crash(2, 1, "drop a x"), ask("list a"), crash(9, 0, "close b"), ask("step"), ask("watch b 5"))
	want, said := impl.ServerPlay(list)
	var work sync.WaitGroup
	for n := range 16 {
		work.Go(func() {
			if s, answers := impl.ServerPlay(list); !sameServer(s, want) || !sameTexts(answers, said) {
				t.Errorf("play %d: %q", n, answers)
			}
		})
	}
	work.Wait()
}
