package tests

import (
	"crypto/sha256"
	"fmt"
	"slices"
	"strings"
	"sync"
	"testing"

	"loop.example/muniment/impl"
)

// copyServer is a server that shares nothing with another one.
func copyServer(s impl.Server) impl.Server {
	return impl.Server{Store: copyStore(s.Store), Model: copyModel(s.Model)}
}

// sameServer says whether two servers are the same; no list is an empty one.
func sameServer(a, b impl.Server) bool {
	return sameStore(a.Store, b.Store) && sameModel(a.Model, b.Model)
}

// noServer says whether a server is nothing.
func noServer(s impl.Server) bool {
	return sameServer(s, impl.Server{})
}

// ask is a request as an event.
func ask(text string) impl.Event {
	return impl.Event{Kind: impl.PlayAsk, Text: text}
}

// asksOf are requests as events.
func asksOf(texts []string) []impl.Event {
	var list []impl.Event
	for _, text := range texts {
		list = append(list, ask(text))
	}
	return list
}

// crash is a power cut as an event.
func crash(left, mask int, text string) impl.Event {
	return impl.Event{Kind: impl.PlayCrash, Text: text, Left: left, Mask: mask}
}

// served is a server behind requests, each of which must be answered by `ok ..`.
func served(t *testing.T, s impl.Server, texts ...string) impl.Server {
	t.Helper()
	for _, text := range texts {
		x, said := impl.ServerDo(s, text)
		if !strings.HasPrefix(said, "ok ") {
			t.Fatalf("%q is answered %q", text, said)
		}
		s = x
	}
	return s
}

// tended is a server that was tended, which must be done.
func tended(t *testing.T, s impl.Server, all bool) impl.Server {
	t.Helper()
	x, code := impl.ServerTend(s, all)
	if code != impl.StoreDone {
		t.Fatalf("code %d of tending", code)
	}
	return x
}

// keeps is a server of a store, which has nothing that can be seen, and of a model, which is done to it as few batches.
func keeps(t *testing.T, s impl.Store, m impl.Model) impl.Server {
	t.Helper()
	for ops := range slices.Chunk(impl.ModelPairs(m), impl.BatchMax) {
		next, code := impl.StoreBatch(s, ops)
		if code != impl.StoreDone {
			t.Fatalf("code %d of a batch", code)
		}
		s = next
	}
	return impl.Server{Store: s, Model: m}
}

// plainAsk is a model behind what a text asks for, and what is answered.
func plainAsk(m impl.Model, text string) (impl.Model, string) {
	r, ok := impl.ReqRead(text)
	if !ok {
		return m, "no bad"
	}
	return impl.ModelDo(m, r)
}

// plainKeep is a store behind what makes of one model another one, and the code: as the document says it, step by step. It may be of a disk that stops.
func plainKeep(s impl.Store, a, b impl.Model) (impl.Store, int) {
	if sameModel(a, b) {
		return s, impl.StoreDone
	}
	ops := impl.ModelDiff(a, b)
	next, code := impl.StoreBatch(s, ops)
	if code == impl.StoreLog {
		next, code = impl.StoreFlush(s)
		if code == impl.StoreFull {
			next, code = impl.StorePack(s)
		}
		if code == impl.StoreDone {
			next, code = impl.StoreBatch(next, ops)
		}
	}
	return next, code
}

// plainDo is a server behind what a text asks for, and what is answered.
func plainDo(s impl.Server, text string) (impl.Server, string) {
	m, said := plainAsk(s.Model, text)
	store, code := plainKeep(s.Store, s.Model, m)
	if code != impl.StoreDone {
		return s, "no full"
	}
	return impl.Server{Store: store, Model: m}, said
}

// plainStop is the disk of a server as it stopped, so many writes and flushes into what a text asks for, `flush` or `pack`.
func plainStop(s impl.Server, text string, left int) impl.Disk {
	store := impl.StoreFall(s.Store, left)
	switch text {
	case "flush":
		store, _ = impl.StoreFlush(store)
	case "pack":
		store, _ = impl.StorePack(store)
	default:
		m, _ := plainAsk(s.Model, text)
		store, _ = plainKeep(store, s.Model, m)
	}
	return store.Disk
}

// spends is how many writes and flushes there are in what a text asks for.
func spends(s impl.Server, text string) int {
	const many = 100000
	return many - plainStop(s, text, many).Left
}

// codeOf is what a store answers to the batch that a text asks for.
func codeOf(s impl.Server, text string) int {
	m, _ := plainAsk(s.Model, text)
	if sameModel(s.Model, m) {
		return impl.StoreDone
	}
	_, code := impl.StoreBatch(s.Store, impl.ModelDiff(s.Model, m))
	return code
}

// filled is a server whose log has no room for what a text asks for, by that text again and again.
func filled(t *testing.T, s impl.Server, text func(m impl.Model) string) impl.Server {
	t.Helper()
	for range 60 {
		if codeOf(s, text(s.Model)) == impl.StoreLog {
			return s
		}
		s = served(t, s, text(s.Model))
	}
	t.Fatal("the log is not full")
	return s
}

// small is a request that changes many keys by few bytes, so that it is what is fresh that comes to have no room.
func small(m impl.Model) string {
	return fmt.Sprint("limit all ", 1000+m.Rev%2)
}

// large is a request that changes few keys by many bytes, so that it is the log that comes to have no room.
func large(m impl.Model) string {
	x, _ := thingOf(m, "a", "x")
	return fmt.Sprint("set a x ", x.Rev, " ", letters(39+m.Rev%2))
}

// deadTable are blocks of a table that has nothing but what is dead, so many.
func deadTable(turn, size int) []string {
	var keys []string
	for n := range 240 {
		keys = append(keys, fmt.Sprintf("%x", sha256.Sum256([]byte(fmt.Sprint(turn, n))))[:24])
	}
	for n := range keys {
		few := slices.Clone(keys[:n+1])
		slices.Sort(few)
		var list []impl.Entry
		for _, key := range few {
			list = append(list, impl.Entry{Key: key, Seq: 1, Dead: true})
		}
		if blocks := plainPieces(turn, plainTable(list)); len(blocks) == size {
			return blocks
		}
	}
	panic("no table of this size")
}

// tight is a store on a disk of which all blocks of tables but so many are taken.
func tight(t *testing.T, free int) impl.Store {
	t.Helper()
	one, two, three := deadTable(1, 45), deadTable(2, 45), deadTable(3, 12-free)
	d := headed(impl.DiskNew(), 4, fmt.Sprintf("0 3 5 0 %d,%d,3 83,45,2 38,45,1", 128+free, 12-free))
	return opened(t, laid(laid(laid(d, 38, one...), 83, two...), 128+free, three...))
}

// baseTexts are requests that make some spaces and things.
func baseTexts() []string {
	return []string{"space a all 90", "space b a 60", "put a x first", "put a y body", "mark a y k", "put b z bb", "drop a y"}
}

// stateServers are servers whose stores stand in all sorts of ways, by what is special of them. Of those whose log has no room it is so for what small or large asks for.
func stateServers(t *testing.T) map[string]impl.Server {
	t.Helper()
	list := map[string]impl.Server{"new": impl.ServerNew()}
	base := served(t, impl.ServerNew(), baseTexts()...)
	list["fresh"] = base
	list["one table"] = tended(t, base, false)
	list["a table and fresh"] = served(t, list["one table"], "set a x 3 other", "drop b z")
	list["packed"] = tended(t, list["a table and fresh"], true)
	list["packed, and fresh"] = served(t, list["packed"], "close b", "step")
	four := base
	for n := range 4 {
		four = tended(t, served(t, four, fmt.Sprint("limit b ", 50+n)), false)
	}
	list["four tables"] = four
	list["fresh full"] = filled(t, base, small)
	list["log full"] = filled(t, list["one table"], large)
	list["four tables, fresh full"] = filled(t, four, small)
	list["four tables, log full"] = filled(t, four, large)
	m := base.Model
	list["room for a pack alone"] = filled(t, keeps(t, tight(t, 6), m), large)
	list["no room"] = filled(t, keeps(t, tight(t, 0), m), small)
	list["a block too few"] = filled(t, keeps(t, tight(t, 1), m), small)
	list["the last turn"] = filled(t, keeps(t, opened(t, headed(impl.DiskNew(), 1, "0 99999999 0 0")), m), small)
	list["the last head"] = filled(t, keeps(t, opened(t, headed(impl.DiskNew(), 99999999, "1 7 0 0")), m), small)
	list["the last turn but one"] = filled(t, keeps(t, opened(t, headed(impl.DiskNew(), 1, "0 99999998 0 0")), m), small)
	list["the last moment"] = keeps(t, opened(t, headed(impl.DiskNew(), 1, "0 0 99999998 0")), m)
	list["the last moment but one"] = keeps(t, opened(t, headed(impl.DiskNew(), 1, "0 0 99999997 0")), m)
	return list
}

// serversOnce keeps what someServers tells, as many tests ask for it.
var serversOnce struct {
	sync.Once
	list map[string]impl.Server
}

// someServers are servers of all sorts of stores, and of all models, by what is special of them. Who asks does not write into them.
func someServers(t *testing.T) map[string]impl.Server {
	t.Helper()
	serversOnce.Do(func() {
		list := stateServers(t)
		for what, m := range someModels(t) {
			s := keeps(t, impl.StoreNew(), m)
			switch len(what) % 3 {
			case 1:
				s = tended(t, s, false)
			case 2:
				s = tended(t, s, true)
			}
			list["the model "+what] = s
		}
		serversOnce.list = list
	})
	if len(serversOnce.list) < 40 {
		t.Fatal("too few servers")
	}
	return serversOnce.list
}

// noRequests are texts that are no requests.
func noRequests() []string {
	return []string{"", " ", "what", "step ", " step", "put a x", "get a", "list", "watch a -1", "limit a -2", "set a x y z", "put A x b", "flush", "pack", "flush ", "crash", "crash 1 0 step", "step\n", "get a x\x00", letters(3000)}
}

// texts are some of what fits a model, of each kind some requests that are answered by `ok ..`, and some that are not.
func texts(m impl.Model, most int) []string {
	var list []string
	for _, kind := range asks(m, names(m, "aa")) {
		ok, no := 0, 0
		for at := range kind {
			// Steps of 7 take requests of all sorts out of a long list.
			text := impl.ReqWrite(kind[at*7%len(kind)])
			count := &no
			if x, _ := plainAsk(m, text); !sameModel(x, m) {
				count = &ok
			}
			if *count < most && text != "" {
				list = append(list, text)
				*count++
			}
		}
	}
	slices.Sort(list)
	return slices.Compact(list)
}

// changes are some of the requests that fit a model and are answered by `ok ..`, one of each kind.
func changes(m impl.Model) []string {
	var list []string
	for _, text := range texts(m, 1) {
		if x, _ := plainAsk(m, text); !sameModel(x, m) {
			list = append(list, text)
		}
	}
	return list
}

// badServers are servers that are not ok, each for one reason.
func badServers(t *testing.T) map[string]impl.Server {
	t.Helper()
	bad := map[string]impl.Server{"nothing": {}, "no store": {Model: impl.ModelNew()}, "no model": {Store: impl.ServerNew().Store}}
	bad["nothing in a store"] = impl.Server{Store: impl.StoreNew()}
	bad["nothing in a store, a new model"] = impl.Server{Store: impl.StoreNew(), Model: impl.ModelNew()}
	for _, name := range []string{"new", "a table and fresh", "packed", "the model busy"} {
		spoil := func(what string, do func(s *impl.Server)) {
			s := copyServer(someServers(t)[name])
			do(&s)
			bad[name+", "+what] = s
		}
		for _, left := range []int{0, 1, 77} {
			spoil(fmt.Sprint("left ", left), func(s *impl.Server) { s.Store.Disk.Left = left })
		}
		spoil("another left", func(s *impl.Server) { s.Store.Disk.Left = -2 })
		spoil("something waits", func(s *impl.Server) { s.Store.Disk.Waits = []impl.Wait{{At: 139, Text: ""}} })
		spoil("another seq", func(s *impl.Server) { s.Store.Seq++ })
		spoil("another head", func(s *impl.Server) { s.Store.Head++ })
		spoil("a torn head", func(s *impl.Server) { s.Store.Disk.Blocks[s.Store.Head%2] = "" })
		spoil("another block", func(s *impl.Server) { s.Store.Disk.Blocks[1], s.Store.Disk.Blocks[0] = "x", "x" })
		spoil("a block less", func(s *impl.Server) { s.Store.Disk.Blocks = s.Store.Disk.Blocks[:139] })
		spoil("another rev", func(s *impl.Server) { s.Model.Rev++; s.Model.Floor = s.Model.Rev; s.Model.Pasts = nil })
		spoil("another uid", func(s *impl.Server) { s.Model.Uid++ })
		spoil("another limit", func(s *impl.Server) { s.Model.Spaces[0].Limit++ })
		spoil("another space", func(s *impl.Server) {
			s.Model = after(t, impl.ModelNew(), "space a all 5")
		})
		spoil("a model that is not ok", func(s *impl.Server) { s.Model.Uses[0].Units++ })
		spoil("a key more", func(s *impl.Server) { s.Store, _ = impl.StoreBatch(s.Store, []impl.Op{put("zz", "v")}) })
		spoil("a use less", func(s *impl.Server) { s.Store, _ = impl.StoreBatch(s.Store, []impl.Op{drop("u.all")}) })
		spoil("the newest of the store", func(s *impl.Server) { s.Store = served(t, *s, "limit all 77").Store })
		spoil("the newest of the model", func(s *impl.Server) { s.Model = after(t, s.Model, "limit all 77") })
	}
	spoil := func(name, what string, do func(s *impl.Server)) {
		s := copyServer(someServers(t)[name])
		do(&s)
		bad[name+", "+what] = s
	}
	spoil("the model busy", "a body", func(s *impl.Server) { s.Model.Things[0].Body = strings.ToUpper(s.Model.Things[0].Body) })
	spoil("the model busy", "a mark", func(s *impl.Server) { s.Model.Things[1].Marks[0] = "j" })
	spoil("the model busy", "no marks", func(s *impl.Server) { s.Model.Things[1].Marks = nil })
	spoil("the model busy", "a sign", func(s *impl.Server) { s.Model.Pasts[0].Sign = "-" })
	spoil("fresh", "nothing fresh", func(s *impl.Server) { s.Store.Fresh = nil })
	return bad
}
