package tests

import (
	"fmt"
	"math"
	"slices"
	"strings"
	"testing"

	"loop.example/muniment/impl"
)

func TestPromise72(t *testing.T) {
	s := impl.ServerNew()
	store, code := impl.StoreBatch(impl.StoreNew(), []impl.Op{put("m", "0 0 0"), put("s.all", "- -1 here 0"), put("u.all", "0")})
	if code != impl.StoreDone || !sameServer(s, impl.Server{Store: store, Model: impl.ModelNew()}) || !impl.ServerOk(s) {
		t.Errorf("%v", s)
	}
	if x, ok := impl.ServerOpen(s.Store.Disk); !ok || !sameServer(x, s) {
		t.Errorf("opened: %v", x)
	}
	s.Store.Disk.Blocks[1], s.Store.Fresh[0].Key, s.Model.Spaces[0].Name, s.Model.Uses[0].Units = "mine", "mine", "mine", 7
	if !impl.ServerOk(impl.ServerNew()) {
		t.Error("two new servers share memory")
	}
}

func TestServerOk(t *testing.T) {
	for what, s := range someServers(t) {
		before := copyServer(s)
		if !impl.ServerOk(s) || !sameServer(s, before) {
			t.Errorf("%s: not ok", what)
		}
	}
	for what, s := range badServers(t) {
		mustPanicNot(t, what, func() {
			if impl.ServerOk(s) {
				t.Errorf("%s: ok", what)
			}
		})
	}
	for what, store := range badStores(t) {
		for _, m := range []impl.Model{{}, impl.ModelNew()} {
			if impl.ServerOk(impl.Server{Store: store, Model: m}) {
				t.Errorf("%s: ok", what)
			}
		}
	}
	for what, m := range badModels(t) {
		if impl.ServerOk(impl.Server{Store: impl.ServerNew().Store, Model: m}) || impl.ServerOk(impl.Server{Store: impl.StoreNew(), Model: m}) {
			t.Errorf("%s: ok", what)
		}
	}
}

// Of servers that are not ok there is nothing.
func TestServerBad(t *testing.T) {
	for what, s := range badServers(t) {
		mustPanicNot(t, what, func() {
			before := copyServer(s)
			for _, text := range []string{"step", "list all", "what", "", "limit all 5", "flush", "pack"} {
				if x, said := impl.ServerDo(s, text); said != "" || !noServer(x) {
					t.Errorf("%s: %q is answered %q", what, text, said)
				}
				for _, left := range []int{-1, 0, 1, 99} {
					if !noDisk(impl.ServerCut(s, text, left, 1)) {
						t.Errorf("%s: %q, cut at %d, is a disk", what, text, left)
					}
				}
			}
			for _, all := range []bool{false, true} {
				if x, code := impl.ServerTend(s, all); code != impl.StoreBad || !noServer(x) {
					t.Errorf("%s: code %d of tending", what, code)
				}
			}
			if !sameServer(s, before) {
				t.Errorf("%s: it is changed", what)
			}
		})
	}
}

func TestPromise68(t *testing.T) {
	for what, s := range someServers(t) {
		before := copyServer(s)
		list := append(texts(s.Model, 3), small(s.Model), large(s.Model))
		for _, text := range append(list, noRequests()...) {
			x, said := impl.ServerDo(s, text)
			want, wantSaid := plainDo(s, text)
			if said != wantSaid || !sameServer(x, want) {
				t.Fatalf("%s, %q: %q, not %q; %v", what, text, said, wantSaid, x)
			}
			m, answer := plainAsk(s.Model, text)
			full := said == "no full" && sameServer(x, s)
			if !full && (said != answer || !sameModel(x.Model, m)) {
				t.Errorf("%s, %q: %q, not %q", what, text, said, answer)
			}
			if !impl.ServerOk(x) || !sameServer(s, before) {
				t.Fatalf("%s, %q: it is not ok, or what was given is changed", what, text)
			}
			if y, ok := impl.ServerOpen(x.Store.Disk); !ok || !sameServer(x, y) {
				t.Fatalf("%s, %q: opened %v", what, text, y)
			}
		}
	}
}

// What a store is tended by ahead of a batch for which it has no room, and when there is no help.
func TestServerTending(t *testing.T) {
	all := someServers(t)
	for _, c := range []struct {
		name, text string
		heads      int // how many heads are written
		tables     int // how many tables are there behind it
		packed     bool
	}{
		{"fresh full", "limit all 5", 1, 1, false},
		{"log full", large(all["log full"].Model), 1, 2, false},
		{"four tables, fresh full", "limit all 5", 1, 1, true},
		{"four tables, log full", "put all new " + letters(40), 1, 1, true},
		{"room for a pack alone", "put all new " + letters(40), 1, 1, true},
		{"the last turn but one", "limit all 5", 1, 1, false},
		{"a block too few", "limit all 5", -1, 0, false},
		{"no room", "limit all 5", -1, 0, false},
		{"the last turn", "limit all 5", -1, 0, false},
		{"the last head", "limit all 5", -1, 0, false},
		{"the last moment", "limit all 5", -1, 0, false},
		{"the last moment", "close a", -1, 0, false},
		{"the last moment but one", "limit all 5", 0, 0, false},
		{"fresh", "limit all 5", 0, 0, false},
		{"four tables", "limit all 5", 0, 4, false},
	} {
		s := all[c.name]
		x, said := impl.ServerDo(s, c.text)
		if c.heads < 0 {
			if said != "no full" || !sameServer(x, s) {
				t.Errorf("%s: %q", c.name, said)
			}
			// Looks, and what is refused, need no room.
			for _, look := range [][2]string{{"list b", "list z uses 3"}, {"get a q", "no thing"}, {"close all", "no all"}, {"what", "no bad"}} {
				if y, said := impl.ServerDo(s, look[0]); said != look[1] || !sameServer(y, s) {
					t.Errorf("%s: %q is answered %q", c.name, look[0], said)
				}
			}
			continue
		}
		st := x.Store
		if said != fmt.Sprint("ok ", s.Model.Rev+1) || st.Head != s.Store.Head+c.heads || st.Turn != s.Store.Turn+c.heads || st.Seq != s.Store.Seq+1 || len(st.Tables) != c.tables {
			t.Errorf("%s: %q, head %d, turn %d, %d tables", c.name, said, st.Head, st.Turn, len(st.Tables))
		}
		if c.packed != (st.Floor > s.Store.Floor) || c.packed && st.Floor != s.Store.Seq || c.heads > 0 && st.Nums != 1 {
			t.Errorf("%s: floor %d, %d records", c.name, st.Floor, st.Nums)
		}
	}
	if s := all["the last moment but one"]; s.Store.Seq != impl.SeqMax-1 {
		t.Error(s.Store.Seq)
	}
	if s := all["fresh full"]; s.Store.Blocks == impl.LogBlocks {
		t.Error("it is not what is fresh that has no room")
	}
	if s := all["log full"]; len(s.Store.Fresh)+6 > impl.MemMax || s.Store.Blocks+2 <= impl.LogBlocks {
		t.Error("it is not the log that has no room")
	}
}

// A request that is refused, or a look, does not tend, though the log is full.
func TestServerFullLogStays(t *testing.T) {
	for _, name := range []string{"fresh full", "log full", "four tables, log full", "no room"} {
		s := someServers(t)[name]
		for _, text := range append(noRequests(), "get a x", "list all", "watch a 0", "close all", "put a x b", "space b all 5", "drop a y", "limit zz 5", "step") {
			if x, said := impl.ServerDo(s, text); !sameServer(x, s) || strings.HasPrefix(said, "ok ") {
				t.Errorf("%s, %q: %q", name, text, said)
			}
		}
	}
}

func TestPromise70(t *testing.T) {
	for what, s := range someServers(t) {
		looks := noRequests()
		kinds := asks(s.Model, names(s.Model, "zz"))
		for _, kind := range []int{impl.ReqGet, impl.ReqList, impl.ReqWatch} {
			for at := range 9 {
				looks = append(looks, impl.ReqWrite(kinds[kind][at*5%len(kinds[kind])]))
			}
		}
		for _, text := range looks {
			x, said := impl.ServerDo(s, text)
			if !sameServer(x, s) || said == "" {
				t.Errorf("%s, %q: %q", what, text, said)
			}
			if _, ok := impl.ReqRead(text); !ok && said != "no bad" {
				t.Errorf("%s, %q: %q", what, text, said)
			}
		}
	}
}

func TestPromise67(t *testing.T) {
	codes := map[int]int{}
	for what, s := range someServers(t) {
		for name, do := range tends() {
			before := copyServer(s)
			x, code := impl.ServerTend(s, name == "pack")
			store, want := do(s.Store)
			if code != want || !sameServer(x, impl.Server{Store: store, Model: s.Model}) || !impl.ServerOk(x) || !sameServer(s, before) {
				t.Fatalf("%s, %s: code %d, not %d; %v", what, name, code, want, x)
			}
			if code == impl.StoreDone && len(x.Store.Fresh) != 0 || code != impl.StoreDone && !sameServer(x, s) {
				t.Errorf("%s, %s: code %d, %v", what, name, code, x)
			}
			if name == "pack" && code == impl.StoreDone && (x.Store.Floor != s.Store.Seq || len(x.Store.Tables) != 1) || name == "flush" && x.Store.Floor != s.Store.Floor {
				t.Errorf("%s, %s: floor %d", what, name, x.Store.Floor)
			}
			if y, ok := impl.ServerOpen(x.Store.Disk); !ok || !sameServer(x, y) {
				t.Fatalf("%s, %s: opened %v", what, name, y)
			}
			codes[code]++
		}
	}
	if codes[impl.StoreDone] < 50 || codes[impl.StoreFull] < 6 {
		t.Errorf("%v", codes)
	}
}

// notOpened are disks of which no server can be opened.
func notOpened(t *testing.T) map[string]impl.Disk {
	t.Helper()
	list := badDisks()
	list["a new disk"] = impl.DiskNew()
	list["a disk of noise"] = someDisk(-1)
	list["a new store"] = impl.StoreNew().Disk
	for name, w := range someTwins(t) {
		list["the store "+name] = w.s.Disk
	}
	base := someServers(t)["a table and fresh"]
	change := func(what string, ops ...impl.Op) {
		for _, tend := range []bool{false, true} {
			s, code := impl.StoreBatch(base.Store, ops)
			if code != impl.StoreDone {
				t.Fatalf("%s: code %d", what, code)
			}
			if tend {
				s, _ = impl.StorePack(s)
			}
			list[fmt.Sprint(what, ", tended: ", tend)] = s.Disk
		}
	}
	for _, pair := range impl.ModelPairs(base.Model) {
		change("without "+pair.Key, drop(pair.Key))
		change("another "+pair.Key, put(pair.Key, pair.Value+"0"))
		change("nothing of "+pair.Key, put(pair.Key, ""))
	}
	for _, pair := range []impl.Op{put("a", "v"), put("zz", ""), put("m0", "0 0 0"), put("p.00000077", "+ a x"), put("s.zz", "all 5 here 1"), put("t.a.q", "5 5 here - b"), put("t.zz.q", "5 5 here - b"), put("u.zz", "0")} {
		change("with "+pair.Key, pair)
	}
	waits := copyDisk(base.Store.Disk)
	waits.Waits = []impl.Wait{{At: 139, Text: waits.Blocks[139]}}
	list["something waits"] = waits
	torn := copyDisk(base.Store.Disk)
	torn.Blocks[0], torn.Blocks[1] = torn.Blocks[1], torn.Blocks[0]
	list["heads in each other's places"] = torn
	table := copyDisk(base.Store.Disk)
	table.Blocks[base.Store.Tables[0].At] = ""
	list["a torn table"] = table
	return list
}

func TestPromise69(t *testing.T) {
	for what, s := range someServers(t) {
		d := copyDisk(s.Store.Disk)
		x, ok := impl.ServerOpen(s.Store.Disk)
		if !ok || !sameServer(x, s) || !impl.ServerOk(x) || !sameDisk(s.Store.Disk, d) {
			t.Errorf("%s: opened %v", what, x)
		}
		if y, ok := impl.ServerOpen(x.Store.Disk); !ok || !sameServer(x, y) {
			t.Errorf("%s: opened again %v", what, y)
		}
	}
	for what, d := range notOpened(t) {
		mustPanicNot(t, what, func() {
			if s, ok := impl.ServerOpen(d); ok || !noServer(s) {
				t.Errorf("%s: opened %v", what, s)
			}
		})
	}
}

// A disk that is to stop can be opened; but such a server is not ok.
func TestServerOpenLeft(t *testing.T) {
	for _, left := range []int{0, 1, 99, math.MaxInt} {
		want := copyServer(someServers(t)["a table and fresh"])
		want.Store.Disk.Left = left
		x, ok := impl.ServerOpen(want.Store.Disk)
		if !ok || !sameServer(x, want) || impl.ServerOk(x) {
			t.Errorf("left %d: %v, %v", left, ok, x)
		}
		if y, ok := impl.ServerOpen(x.Store.Disk); !ok || !sameServer(x, y) {
			t.Errorf("left %d: opened again %v", left, y)
		}
	}
}

// What is told at Seq is read: newer values of a key, not older ones, whether they lie in a table or not.
func TestServerOpenNewest(t *testing.T) {
	s := served(t, impl.ServerNew(), "space a all 30", "put a x one")
	s = served(t, tended(t, s, false), "set a x 2 two")
	s = served(t, tended(t, s, false), "set a x 3 three", "put a y y", "drop a y")
	x, ok := impl.ServerOpen(s.Store.Disk)
	if got := impl.ModelBoard(x.Model); !ok || got != "count 6\na in all 30 here 1 uses 6\n  x 1 4 here - three\nall in - -1 here 0 uses 6\n" {
		t.Errorf("%q", got)
	}
	if _, said := impl.ServerDo(x, "put a y y"); said != "ok 7" {
		t.Error(said)
	}
	// The number of the y that went is not given again.
	x = served(t, x, "put a y y")
	if y, _ := thingOf(x.Model, "a", "y"); y.Uid != 3 {
		t.Errorf("%v", y)
	}
}

// What is newer than the moment of a store, in a table that was made by hand, is not read.
func TestServerOpenNewer(t *testing.T) {
	list := []impl.Entry{{Key: "m", Seq: 9, Value: "7 7 7"}, {Key: "m", Seq: 1, Value: "0 0 0"}, {Key: "s.all", Seq: 9, Dead: true}, {Key: "s.all", Seq: 1, Value: "- -1 here 0"}, {Key: "u.all", Seq: 1, Value: "0"}, {Key: "zz", Seq: 4, Value: "v"}}
	blocks := plainPieces(1, plainTable(list))
	d := laid(headed(impl.DiskNew(), 1, fmt.Sprintf("0 3 3 0 38,%d,1", len(blocks))), 38, blocks...)
	x, ok := impl.ServerOpen(d)
	if !ok || !sameModel(x.Model, impl.ModelNew()) || !impl.ServerOk(x) || x.Store.Seq != 3 {
		t.Errorf("%v", x)
	}
	if x, ok := impl.ServerOpen(headed(d, 2, fmt.Sprintf("0 3 4 0 38,%d,1", len(blocks)))); ok || !noServer(x) {
		t.Errorf("at the moment of something newer: %v", x)
	}
}

// Behind the loss of the newest head the older one is read. The log to which that store would be tended has the lost records, so nothing more is kept.
func TestServerOlderHead(t *testing.T) {
	old := someServers(t)["log full"]
	s := served(t, old, large(old.Model), "limit all 5")
	d := copyDisk(s.Store.Disk)
	d.Blocks[s.Store.Head%2] = ""
	x, ok := impl.ServerOpen(d)
	if !ok || !sameModel(x.Model, old.Model) || !impl.ServerOk(x) {
		t.Fatalf("%v", x)
	}
	text := large(x.Model)
	if y, said := impl.ServerDo(x, text); said != "no full" || !sameServer(y, x) {
		t.Errorf("%q", said)
	}
	if got := impl.ServerCut(x, text, 9999, 0); !sameDisk(got, x.Store.Disk) {
		t.Error("the disk is another one")
	}
}

func TestServerMemory(t *testing.T) {
	good := someServers(t)["four tables, log full"]
	s := copyServer(good)
	st, m := &s.Store, &s.Model
	blocks, waits := append(st.Disk.Blocks, "behind"), []impl.Wait{{At: 77}}
	tables, fresh := append(st.Tables, impl.Extent{At: 77}), append(st.Fresh, impl.Entry{Key: "behind"})
	spaces, uses := append(m.Spaces, impl.Space{Name: "behind"}), append(m.Uses, impl.Use{Name: "behind"})
	things, pasts := append(m.Things, impl.Thing{Name: "behind"}), append(m.Pasts, impl.Past{Rev: 77})
	marks := []string{"k", "behind"}
	st.Disk.Blocks, st.Disk.Waits, st.Tables, st.Fresh = blocks[:140:141], waits[:0:1], tables[:4:5], fresh[:len(st.Fresh):len(fresh)]
	m.Spaces, m.Uses, m.Things, m.Pasts = spaces[:len(m.Spaces):len(spaces)], uses[:len(m.Uses):len(uses)], things[:len(m.Things):len(things)], pasts[:8:9]
	m.Things[1].Marks = marks[:1:2]
	check := func(what string) {
		t.Helper()
		if !sameServer(s, good) || blocks[140] != "behind" || waits[0].At != 77 || tables[4].At != 77 || fresh[len(fresh)-1].Key != "behind" {
			t.Fatalf("%s: the store is changed", what)
		}
		if spaces[len(spaces)-1].Name != "behind" || uses[len(uses)-1].Name != "behind" || things[len(things)-1].Name != "behind" || pasts[8].Rev != 77 || marks[1] != "behind" {
			t.Fatalf("%s: the model is changed", what)
		}
	}
	spoil := func(what string, x impl.Server) {
		t.Helper()
		check(what)
		for _, one := range x.Model.Things {
			clearAll(one.Marks)
		}
		clearAll(x.Model.Spaces)
		clearAll(x.Model.Uses)
		clearAll(x.Model.Things)
		clearAll(x.Model.Pasts)
		clearAll(x.Store.Disk.Blocks)
		clearAll(x.Store.Disk.Waits)
		clearAll(x.Store.Tables)
		clearAll(x.Store.Fresh)
		check(what + ", spoilt")
	}
	for _, text := range append(texts(s.Model, 1), noRequests()...) {
		x, _ := impl.ServerDo(s, text)
		spoil(text, x)
		for _, left := range []int{0, 1, 5, 60} {
			spoil(fmt.Sprint(text, ", cut at ", left), impl.Server{Store: impl.Store{Disk: impl.ServerCut(s, text, left, 5)}})
		}
	}
	for _, all := range []bool{false, true} {
		x, _ := impl.ServerTend(s, all)
		spoil(fmt.Sprint("tended ", all), x)
	}
	x, _ := impl.ServerOpen(s.Store.Disk)
	spoil("opened", x)
	if !impl.ServerOk(s) {
		t.Error("not ok")
	}
}

// What is played is not written into, nor behind its end; nor are lines.
func TestServerPlayMemory(t *testing.T) {
	events := append(asksOf(baseTexts()), crash(1, 1, "drop a x"), impl.Event{Kind: impl.PlayPack}, ask("list a"), ask("behind"))
	lines := append(baseTexts(), "crash 1 1 drop a x", "pack", "list a", "behind")
	wantEvents, wantLines := slices.Clone(events), slices.Clone(lines)
	last := len(events) - 1
	x, answers := impl.ServerPlay(events[:last])
	again, _ := impl.ServerPlay(events[:last])
	m, said := impl.ServerModel(lines[:last])
	board := impl.ServerSession(lines[:last])
	clearAll(x.Store.Disk.Blocks)
	clearAll(x.Model.Things)
	clearAll(m.Things)
	clearAll(answers)
	clearAll(said)
	if !slices.Equal(events, wantEvents) || !slices.Equal(lines, wantLines) || !impl.ServerOk(again) || board != impl.ServerSession(lines[:last]) {
		t.Error("something is changed")
	}
}
