package tests

import (
	"fmt"
	"math"
	"strings"
	"testing"

	"loop.example/muniment/impl"
)

func TestPromise24(t *testing.T) {
	for name, w := range someTwins(t) {
		for _, left := range lefts() {
			s := copyStore(w.s)
			s.Disk.Left = left
			before := copyDisk(s.Disk)
			if got, ok := impl.StoreOpen(s.Disk); !ok || !sameStore(got, s) || !sameDisk(s.Disk, before) {
				t.Errorf("%s, left %d: %v", name, left, got)
			}
			for _, mask := range []int{0, 1, math.MaxInt} {
				if got, ok := impl.StoreOpen(impl.DiskCrash(s.Disk, mask)); !ok || !sameStore(got, w.s) {
					t.Errorf("%s, left %d: behind a crash %v", name, left, got)
				}
			}
		}
		w.check(name)
	}
}

func TestStoreOpenBadDisk(t *testing.T) {
	for name, d := range badDisks() {
		mustPanicNot(t, name, func() {
			if s, ok := impl.StoreOpen(d); ok || !noStore(s) {
				t.Errorf("%s: opened", name)
			}
			good := impl.StoreNew()
			if len(d.Blocks) > 1 {
				d.Blocks[1] = good.Disk.Blocks[1]
			}
			if s, ok := impl.StoreOpen(d); ok || !noStore(s) {
				t.Errorf("%s: opened by a head", name)
			}
		})
	}
	for _, d := range []impl.Disk{impl.DiskNew(), someDisk(0), someDisk(-1)} {
		if s, ok := impl.StoreOpen(d); ok || !noStore(s) {
			t.Errorf("a disk without a head: %v", s)
		}
	}
}

// badHeads are blocks that are no heads, in the place of the head of number 7.
func badHeads() map[string]string {
	frame := func(num int, text string) string { return plainFrame(0, num, text)[0] }
	good := frame(7, "0 3 5 2")
	texts := map[string]string{
		"an empty block":        "",
		"a short block":         good[:15],
		"a sum alone":           good[:16],
		"a head cut short":      good[:len(good)-1],
		"a byte more":           good + "0",
		"another sum":           "0" + good[1:16] + good[16:],
		"the number 0":          frame(0, "0 3 5 2"),
		"the number below":      frame(6, "0 3 5 2"),
		"the number above":      frame(8, "0 3 5 2"),
		"a turn":                plainFrame(1, 7, "0 3 5 2")[0],
		"a number with noughts": frameByHand("0", "07", "1", "0 3 5 2")[0],
		"a number with a sign":  frameByHand("0", "+7", "1", "0 3 5 2")[0],
		"a number below 0":      frameByHand("0", "-7", "1", "0 3 5 2")[0],
		"nine figures":          frameByHand("0", "100000001", "1", "0 3 5 2")[0],
		"many figures":          frameByHand("0", strings.Repeat("1", 99), "1", "0 3 5 2")[0],
		"two parts":             frameByHand("0", "7", "2", "0 3 5 2", "")[0],
		"a part of two":         plainFrame(0, 7, strings.Repeat("0 3 5 2", 40))[0],
		"too long for one":      frameByHand("0", "7", "1", "0 3 5 2"+strings.Repeat(" 38,1,1", 19))[0],
	}
	for _, text := range []string{
		"", " ", "0", "0 3 5", "0 3 5 ", " 0 3 5 2", "0  3 5 2", "0 3 5 2 ", "0 3 5 2\n", "0,3,5,2", "2 3 5 2", "-1 3 5 2", "00 3 5 2", "x 3 5 2", "0 03 5 2", "0 x 5 2",
		"0 3 05 2", "0 3 5 02", "0 3 5 6", "0 3 1 2", "0 3 5 -1", "0 100000000 5 2", "0 3 100000000 2", "0 3 5 2 7", "0 3 5 2 38,1", "0 3 5 2 38,1,1,1", "0 3 5 2 38;1;1",
		"0 3 5 2 38,1,1 ", "0 3 5 2  38,1,1", "0 3 5 2 37,1,1", "0 3 5 2 0,1,1", "0 3 5 2 140,1,1", "0 3 5 2 139,2,1", "0 3 5 2 38,103,1", "0 3 5 2 38,0,1", "0 3 5 2 140,0,1",
		"0 3 5 2 38,-1,1", "0 3 5 2 -38,1,1", "0 3 5 2 38,1,-1", "0 3 5 2 038,1,1", "0 3 5 2 38,01,1", "0 3 5 2 38,1,01", "0 3 5 2 38,1,100000000", "0 3 5 2 38,99999999,1",
		"0 3 5 2 99999999,1,1", "0 3 5 2 38,,1", "0 3 5 2 ,1,1", "0 3 5 2 38,1,", "0 3 5 2 38,1,1 39,1,1 40,1,1 41,1,1 42,1,1", "0 3 5 2 38,1,1,39,1,1", "0 3 5 2 38,1,1 x",
	} {
		texts["the text "+text] = frame(7, text)
	}
	return texts
}

// tableOfEach is a disk with a table of no entries in each of the blocks 38 to 42, which a bad head may tell of.
func tableOfEach() impl.Disk {
	d := impl.DiskNew()
	for at := 38; at <= 42; at++ {
		d = laid(d, at, plainPieces(1, "table 0 0000000000000000\n")...)
	}
	return d
}

func TestStoreBadHead(t *testing.T) {
	if s := opened(t, headed(tableOfEach(), 7, "0 3 5 2 38,1,1 39,1,1 40,1,1 41,1,1")); s.Head != 7 || len(s.Tables) != 4 {
		t.Fatalf("a good head: %v", s)
	}
	for name, block := range badHeads() {
		mustPanicNot(t, name, func() {
			if len(block) > impl.BlockMax {
				block = block[:impl.BlockMax]
			}
			d := laid(tableOfEach(), 1, block)
			if s, ok := impl.StoreOpen(d); ok || !noStore(s) {
				t.Errorf("%s: opened: %v", name, s)
			}
			for _, num := range []int{2, 6, 8} {
				s := opened(t, headed(d, num, "1 2 4 4"))
				if want := (impl.Store{Disk: headed(d, num, "1 2 4 4"), Head: num, Log: 1, Turn: 2, Seq: 4, Floor: 4}); !sameStore(s, want) {
					t.Errorf("%s: opened by the other head: %v", name, s)
				}
			}
		})
	}
}

// Of two heads the one of the greater number is taken, whatever else they tell.
func TestStoreTwoHeads(t *testing.T) {
	for _, c := range []struct{ even, odd, want int }{{2, 1, 2}, {2, 3, 3}, {8, 3, 8}, {4, 99999999, 99999999}, {99999998, 99999999, 99999999}, {99999998, 9, 99999998}, {10, 9, 10}} {
		d := headed(headed(impl.DiskNew(), c.even, "0 9 9 9"), c.odd, "1 8 8 8")
		if s := opened(t, d); s.Head != c.want || s.Turn != 9-c.want%2 || s.Log != c.want%2 || s.Seq != s.Turn || s.Floor != s.Turn {
			t.Errorf("%d and %d: %v", c.even, c.odd, s)
		}
	}
	if s, ok := impl.StoreOpen(headed(impl.DiskNew(), 0, "0 0 0 0")); ok || !noStore(s) {
		t.Error("a head of number 0")
	}
	// Both in the block of the other one are none.
	d := impl.DiskNew()
	d.Blocks[0], d.Blocks[1] = plainFrame(0, 3, "0 0 0 0")[0], plainFrame(0, 2, "0 0 0 0")[0]
	if _, ok := impl.StoreOpen(d); ok {
		t.Error("heads in each other's blocks")
	}
}

// badTables are disks of which a table cannot be read; the head is that of number 6.
func badTables() map[string]impl.Disk {
	list := sizedEntries(7000)[:30]
	text := plainTable(list)
	blocks := plainPieces(2, text)
	size := len(blocks)
	made := func(head string, at int, blocks ...string) impl.Disk {
		return laid(headed(impl.DiskNew(), 6, "0 2 5 2 "+head), at, blocks...)
	}
	one := plainPieces(1, "table 0 0000000000000000\n")
	disks := map[string]impl.Disk{
		"no blocks":                    made(fmt.Sprintf("38,%d,2", size), 38),
		"a block behind":               made(fmt.Sprintf("38,%d,2", size), 39, blocks...),
		"a block ahead":                made(fmt.Sprintf("39,%d,2", size), 38, blocks...),
		"a block too few":              made(fmt.Sprintf("38,%d,2", size-1), 38, blocks...),
		"a block too many":             made(fmt.Sprintf("38,%d,2", size+1), 38, blocks...),
		"another turn":                 made(fmt.Sprintf("38,%d,3", size), 38, blocks...),
		"the first piece alone":        made("38,15,2", 38, blocks...),
		"one piece again":              made(fmt.Sprintf("38,%d,2", size+15), 38, append(append([]string(nil), blocks...), blocks[:15]...)...),
		"no table":                     made("38,1,2", 38, plainFrame(2, 0, "tables")...),
		"an empty text":                made("38,1,2", 38, plainFrame(2, 0, "")...),
		"an empty piece":               made("38,2,2", 38, append(plainFrame(2, 0, one[0][16+8:]), plainFrame(2, 1, "")...)...),
		"a number on":                  made("38,1,2", 38, plainFrame(2, 1, "table 0 0000000000000000\n")...),
		"a short piece ahead":          made(fmt.Sprintf("38,%d,2", len(plainFrame(2, 0, text[:1999]))+len(plainFrame(2, 1, text[1999:]))), 38, append(plainFrame(2, 0, text[:1999]), plainFrame(2, 1, text[1999:])...)...),
		"a long table":                 made(fmt.Sprintf("38,%d,2", len(plainPieces(2, plainTable(sizedEntries(7001))))), 38, plainPieces(2, plainTable(sizedEntries(7001)))...),
		"two that are one":             made("38,1,1 38,1,1", 38, one...),
		"two with a block in common":   made(fmt.Sprintf("38,1,1 38,%d,2", size), 38, blocks...),
		"two, the second not there":    made("38,1,1 39,1,1", 38, one...),
		"two, the first not there":     made("39,1,1 38,1,1", 38, one...),
		"three, the third is as one":   made("38,1,1 39,1,1 38,1,1", 38, one[0], one[0]),
		"four, the last not there":     made("38,1,1 39,1,1 40,1,1 41,1,1", 38, one[0], one[0], one[0]),
		"a table of the disk's end on": made("139,1,1", 138, one...),
	}
	whole := plainPieces(2, plainTable(entriesOfSize(2000)))
	disks["a whole piece, and an empty one"] = made(fmt.Sprintf("38,%d,2", len(whole)+1), 38, append(whole, plainFrame(2, 1, "")...)...)
	for _, at := range []int{0, 1, 14, 15, size - 1} {
		disks[fmt.Sprint("no block ", at)] = made(fmt.Sprintf("38,%d,2", size), 38, append(append(append([]string(nil), blocks[:at]...), ""), blocks[at+1:]...)...)
	}
	return disks
}

func TestStoreBadTable(t *testing.T) {
	for name, d := range badTables() {
		for what, d := range map[string]impl.Disk{name: d, name + ", and an older head": headed(d, 5, "0 1 5 2"), name + ", and an older head that tells the same": laid(d, 1, plainFrame(0, 5, d.Blocks[0][24:])...)} {
			mustPanicNot(t, what, func() {
				if s, ok := impl.StoreOpen(d); ok || !noStore(s) {
					t.Errorf("%s: opened: %v", what, s)
				}
			})
		}
		if s := opened(t, headed(d, 7, "0 1 5 2")); s.Head != 7 {
			t.Errorf("%s: a newer head does not tell of it", name)
		}
	}
}

// entriesOfSize are entries whose table has just so many bytes.
func entriesOfSize(size int) []impl.Entry {
	var list []impl.Entry
	for len(plainTable(list)) < size {
		list = append(list, impl.Entry{Key: fmt.Sprint("k", 100+len(list)), Seq: 1, Value: strings.Repeat("v", 80)})
	}
	for at := len(list) - 1; len(plainTable(list)) > size; at-- {
		list[at].Value = list[at].Value[:max(0, 80-len(plainTable(list))+size)]
	}
	return list
}

// Tables of about one, two and three pieces, and at the end of the disk.
func TestStoreTables(t *testing.T) {
	for _, size := range []int{1999, 2000, 2001, 3999, 4000, 4001, 5999, 6000, 6001, 6999, 7000} {
		list := entriesOfSize(size)
		blocks := plainPieces(5, plainTable(list))
		for _, at := range []int{38, 50, 140 - len(blocks)} {
			s := opened(t, laid(headed(impl.DiskNew(), 1, fmt.Sprintf("1 5 1 0 %d,%d,5", at, len(blocks))), at, blocks...))
			if got := impl.StoreScan(s, "", 1); !sameEntries(got, list) || len(plainTable(list)) != size || s.Tables[0] != (impl.Extent{At: at, Size: len(blocks), Turn: 5}) {
				t.Errorf("%d bytes at %d: %v", size, at, got)
			}
			if free := impl.StoreFree(s); len(free) != 102-len(blocks) {
				t.Errorf("%d bytes at %d: free %v", size, at, free)
			}
		}
	}
	none := opened(t, laid(headed(impl.DiskNew(), 1, "0 9 1 0 139,1,99999999"), 139, plainPieces(99999999, "table 0 0000000000000000\n")...))
	if got := impl.StoreScan(none, "", 1); len(got) != 0 {
		t.Error(got)
	}
}

// Of one Key and Seq what is fresh is taken, then what the newest table has.
func TestStoreFirstOfMany(t *testing.T) {
	table := func(value string, seq int) string {
		return plainTable([]impl.Entry{{Key: "k", Seq: seq, Value: value}, {Key: value, Seq: 2, Value: "own"}})
	}
	d := headed(impl.DiskNew(), 1, "0 3 4 0 40,1,3 38,1,1 39,1,2")
	d = laid(d, 38, plainPieces(1, table("o", 3))[0], plainPieces(2, table("p", 5))[0], plainPieces(3, table("q", 3))[0])
	s := opened(t, d)
	for _, c := range []struct {
		seq  int
		want string
		ok   bool
	}{{2, "", false}, {3, "q", true}, {4, "q", true}, {5, "p", true}, {impl.SeqMax, "p", true}} {
		if value, ok := impl.StoreGet(s, "k", c.seq); value != c.want || ok != c.ok {
			t.Errorf("at %d: %q and %v", c.seq, value, ok)
		}
	}
	if got := impl.StoreScan(s, "", 4); len(got) != 4 || got[0] != (impl.Entry{Key: "k", Seq: 3, Value: "q"}) {
		t.Error(got)
	}
	fresh, code := impl.StoreBatch(s, []impl.Op{put("k", "fresh")})
	if value, ok := impl.StoreGet(fresh, "k", 5); code != 0 || value != "fresh" || !ok {
		t.Errorf("fresh: %q and %v", value, ok)
	}
	packed, code := impl.StorePack(fresh)
	if value, ok := impl.StoreGet(packed, "k", 5); code != 0 || value != "fresh" || !ok || !impl.StoreOk(packed) {
		t.Errorf("packed: %q and %v", value, ok)
	}
	flushed, code := impl.StoreFlush(fresh)
	if value, ok := impl.StoreGet(flushed, "k", 5); code != 0 || value != "fresh" || !ok || !impl.StoreOk(flushed) {
		t.Errorf("flushed: %q and %v", value, ok)
	}
}

// Entries that are newer than the store, of the same Key and Seq, stay when they are packed, each once.
func TestStoreFirstOfNewer(t *testing.T) {
	table := func(value string) string {
		return plainTable([]impl.Entry{{Key: "k", Seq: 9, Value: value}, {Key: "k", Seq: 8, Dead: true}, {Key: "k", Seq: 3, Value: value}})
	}
	d := headed(impl.DiskNew(), 1, "0 3 4 0 39,1,3 38,1,1")
	s, code := impl.StorePack(opened(t, laid(d, 38, plainPieces(1, table("older"))[0], plainPieces(3, table("newer"))[0])))
	if code != impl.StoreDone || !impl.StoreOk(s) || len(s.Tables) != 1 {
		t.Fatalf("code %d: %v", code, s)
	}
	for seq, want := range map[int]string{4: "newer", 7: "newer", 8: "", 9: "newer"} {
		if value, ok := impl.StoreGet(s, "k", seq); value != want || ok != (want != "") {
			t.Errorf("at %d: %q and %v", seq, value, ok)
		}
	}
}

// What is written and not yet flushed is read as what is written; but such a store is not ok.
func TestStoreOpenWaits(t *testing.T) {
	w := newTwin(t).batch(put("k", "v"))
	d := copyDisk(impl.StoreNew().Disk)
	d.Waits = []impl.Wait{{At: 2, Text: w.s.Disk.Blocks[2]}}
	s, ok := impl.StoreOpen(d)
	want := copyStore(w.s)
	want.Disk = d
	if !ok || !sameStore(s, want) || impl.StoreOk(s) {
		t.Errorf("%v", s)
	}
	if got, ok := impl.StoreOpen(impl.DiskFlush(d)); !ok || !sameStore(got, w.s) {
		t.Errorf("flushed: %v", got)
	}
}
