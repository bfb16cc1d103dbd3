package tests

import (
	"fmt"
	"strings"
	"testing"

	"loop.example/muniment/impl"
)

// logDisk is a disk with the head of turn 2, of which the log begins behind the moment 5, and with blocks in that log.
func logDisk(blocks ...string) impl.Disk {
	return laid(headed(impl.DiskNew(), 3, "0 2 5 1"), 2, blocks...)
}

// badRecords are blocks that are no record of the turn 2, as its first one, and of the moment 6.
func badRecords() map[string][]string {
	v := put("k", "v")
	good := plainRecord(6, v)
	two := plainFrame(2, 0, plainRecord(6, puts(3, "k", strings.Repeat("r", 80))...))
	list := map[string][]string{
		"nothing":                    nil,
		"an empty block":             {""},
		"an older turn":              plainFrame(1, 0, good),
		"the turn that had this log": plainFrame(0, 0, good),
		"a newer turn":               plainFrame(3, 0, good),
		"the next number":            plainFrame(2, 1, good),
		"a table":                    plainFrame(2, 0, plainTable(nil)),
		"an empty text":              plainFrame(2, 0, ""),
		"another sum":                {"0123456789abcdef" + plainFrame(2, 0, good)[0][16:]},
		"without the last block":     two[:1],
		"without the first block":    two[1:],
		"the last block first":       {two[1], two[0]},
		"the last one of another one": {two[0], plainFrame(2, 0,
			plainRecord(6, puts(3, "k", strings.Repeat("s", 80))...))[1]},
		"a block between": {two[0], "", two[1]},
	}
	for name, text := range map[string]string{
		"no words":                "no words",
		"the moment alone":        plainWords("6"),
		"an empty word":           plainWords(""),
		"the same moment":         plainRecord(5, v),
		"a moment too far":        plainRecord(7, v),
		"moment 0":                plainRecord(0, v),
		"a moment below 0":        plainRecord(-6, v),
		"a moment with a nought":  plainWords("06", "k", "=v"),
		"a moment with a sign":    plainWords("+6", "k", "=v"),
		"a moment with a blank":   plainWords(" 6", "k", "=v"),
		"no moment":               plainWords("k", "=v"),
		"a key alone":             plainWords("6", "k"),
		"a word behind":           plainWords("6", "k", "=v", "l"),
		"a word with a nought":    "01:6,1:k,2:=v,",
		"something behind":        good + "x",
		"cut short":               good[:len(good)-1],
		"an empty mark":           plainWords("6", "k", ""),
		"another mark":            plainWords("6", "k", "+v"),
		"no mark":                 plainWords("6", "k", "v"),
		"dead with a value":       plainWords("6", "k", "-v"),
		"dead twice":              plainWords("6", "k", "--"),
		"a bad one behind others": plainWords("6", "k", "=v", "l", "-", "m", "x"),
	} {
		list[name] = plainFrame(2, 0, text)
	}
	for name, ops := range badOps() {
		if text := plainRecord(6, ops...); len(text) <= impl.FrameMax {
			if name != "a dead value" && !strings.HasPrefix(name, "a dead value,") {
				list["ops: "+name] = plainFrame(2, 0, text)
			}
		}
	}
	return list
}

func TestStoreBadRecord(t *testing.T) {
	want := impl.Store{Head: 3, Turn: 2, Seq: 5, Floor: 1}
	for name, blocks := range badRecords() {
		mustPanicNot(t, name, func() {
			if len(blocks) > 10 {
				blocks = blocks[:10]
			}
			next := plainFrame(2, 1, plainRecord(7, put("n", "next")))
			for what, d := range map[string]impl.Disk{name: logDisk(blocks...), name + ", and the next one": logDisk(append(append([]string(nil), blocks...), next...)...)} {
				want.Disk = d
				if s := opened(t, d); !sameStore(s, want) {
					t.Errorf("%s: %v", what, s)
				}
			}
			s, code := impl.StoreBatch(opened(t, logDisk(blocks...)), []impl.Op{put("k", "new")})
			if value, ok := impl.StoreGet(s, "k", 6); code != impl.StoreDone || value != "new" || !ok {
				t.Errorf("%s: code %d of a batch there", name, code)
			}
		})
	}
}

// Good records are read up to the first that is none; what stands behind that is not looked at.
func TestStoreRecords(t *testing.T) {
	one, two, three := plainFrame(2, 0, plainRecord(6, put("k", "-"), drop("l"))), plainFrame(2, 1, plainRecord(7, puts(3, "k", strings.Repeat("=", 80))...)), plainFrame(2, 2, plainRecord(8, put("k", "")))
	all := append(append(append([]string(nil), one...), two...), three...)
	if len(one) != 1 || len(two) != 2 {
		t.Fatal(len(one), len(two))
	}
	for _, c := range []struct {
		name      string
		blocks    []string
		nums, has int
	}{
		{"all", all, 3, 4}, {"without the last", all[:3], 2, 4}, {"torn in the middle", []string{one[0], two[0], "", three[0]}, 1, 1}, {"the second not there", []string{one[0], three[0]}, 1, 1},
		{"a gap", []string{one[0], "", two[0], two[1]}, 1, 1}, {"the last twice", append(append([]string(nil), all...), three[0]), 3, 4},
		{"the first twice", []string{one[0], one[0]}, 1, 1}, {"of another log", append(make([]string, 18), all...), 0, 0},
	} {
		s := opened(t, logDisk(c.blocks...))
		if s.Nums != c.nums || s.Blocks != []int{0, 1, 3, 4}[c.nums] || s.Seq != 5+c.nums || len(impl.StoreScan(s, "", s.Seq)) != c.has {
			t.Errorf("%s: %v", c.name, s)
		}
	}
	s := opened(t, logDisk(all...))
	for _, c := range []struct {
		seq  int
		want string
		ok   bool
	}{{5, "", false}, {6, "-", true}, {7, "-", true}, {8, "", true}} {
		if value, ok := impl.StoreGet(s, "k", c.seq); value != c.want || ok != c.ok {
			t.Errorf("at %d: %q and %v", c.seq, value, ok)
		}
	}
	if value, ok := impl.StoreGet(s, "k101", 7); value != strings.Repeat("=", 80) || !ok {
		t.Errorf("%q and %v", value, ok)
	}
}

// Records that end with the log are read, one that goes on behind it is not, also where what follows is free.
func TestStoreLogEnd(t *testing.T) {
	for log := range 2 {
		for last := 15; last <= 17; last++ {
			d := headed(impl.DiskNew(), 3, fmt.Sprint(log, " 2 5 1"))
			for num := range last {
				d = laid(d, 2+18*log+num, plainFrame(2, num, plainRecord(6+num, put("k", "v")))...)
			}
			blocks := plainFrame(2, last, plainRecord(6+last, puts(3, "k", strings.Repeat("r", 60))...))
			s := opened(t, laid(d, 2+18*log+last, blocks...))
			if want := last + 1; last <= 16 && (s.Nums != want || s.Blocks != want+1) || last == 17 && (s.Nums != 17 || s.Blocks != 17) {
				t.Errorf("log %d, two blocks behind %d: %v", log, last, s)
			}
		}
	}
}

// A record for which there is no room among what is fresh is not read, nor what stands behind it.
func TestStoreFreshEnd(t *testing.T) {
	for _, n := range []int{11, 12, 13} {
		var blocks []string
		for num, ops := range [][]impl.Op{puts(24, "a", ""), puts(24, "b", ""), puts(n, "c", ""), {put("d", "")}} {
			blocks = append(blocks, plainFrame(2, num, plainRecord(6+num, ops...))...)
		}
		want, nums := 48, 2
		switch n {
		case 11:
			want, nums = 60, 4
		case 12:
			want, nums = 60, 3
		}
		if s := opened(t, logDisk(blocks...)); len(s.Fresh) != want || s.Nums != nums {
			t.Errorf("%d: %d are fresh, by %d records", n, len(s.Fresh), s.Nums)
		}
	}
}

// No moment is behind the last one.
func TestStoreLastMoment(t *testing.T) {
	d := headed(impl.DiskNew(), 3, "0 2 99999998 1")
	d = laid(d, 2, plainFrame(2, 0, plainRecord(99999999, put("k", "v")))[0], plainFrame(2, 1, plainRecord(100000000, put("k", "w")))[0])
	if s := opened(t, d); s.Seq != impl.SeqMax || s.Nums != 1 {
		t.Errorf("%v", s)
	}
}

// The log of an older turn is there, full, where the turn's own log begins, and as far as that does not reach.
func TestStoreOlderLog(t *testing.T) {
	w := newTwin(t)
	for i := range 18 {
		w.batch(put(fmt.Sprint("k", i%5), fmt.Sprint(i)))
	}
	w.flush().batch(put("k", "log 1")).flush()
	old := w.s.Disk.Blocks[2:20]
	for at, block := range old {
		if _, n := impl.FrameGet(0, at, []string{block}); n != 1 {
			t.Fatalf("the older log has no record %d", at)
		}
	}
	if w.s.Log != 0 || w.s.Turn != 2 || w.s.Nums != 0 || len(w.s.Fresh) != 0 {
		t.Fatalf("%v", w.s)
	}
	w.check("the older log is where the newer one begins")
	for i := range 3 {
		w.batch(put("k", fmt.Sprint("new ", i)))
		w.check("some of the older log is written over")
		if w.s.Nums != i+1 {
			t.Error(w.s.Nums)
		}
	}
	w.pack().flush().check("and again")
	// The same again, of a turn that follows one that had the very same moments: power was lost before they stayed.
	d := headed(impl.DiskNew(), 3, "0 2 5 0")
	for num := range 4 {
		d = laid(d, 2+num, plainFrame(0, num, plainRecord(6+num, put("k", "older")))...)
	}
	s := opened(t, laid(d, 2, plainFrame(2, 0, plainRecord(6, put("k", "newer")))...))
	if value, _ := impl.StoreGet(s, "k", impl.SeqMax); s.Nums != 1 || value != "newer" {
		t.Errorf("%q: %v", value, s)
	}
}
