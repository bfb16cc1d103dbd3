package tests

import (
	"math"
	"strings"
	"testing"

	"loop.example/muniment/impl"
)

// someDisk is a disk on which much was written, some of it not flushed.
func someDisk(left int) impl.Disk {
	d := impl.DiskNew()
	for at := 0; at < impl.DiskBlocks; at += 3 {
		d.Blocks[at] = "kept " + strings.Repeat("k", at)
	}
	d.Blocks[139] = strings.Repeat("z", impl.BlockMax)
	d.Waits = []impl.Wait{
		{At: 3, Text: "one"}, {At: 0, Text: "first"}, {At: 3, Text: "two"}, {At: 139, Text: ""},
		{At: 5, Text: strings.Repeat("x", impl.BlockMax)}, {At: 0, Text: "second"}, {At: 3, Text: "three"},
	}
	d.Left = left
	return d
}

// badDisks are disks that are not ok, each for one reason, and ask for the code that would stumble.
func badDisks() map[string]impl.Disk {
	list := map[string]impl.Disk{"nothing": {}}
	change := func(name string, do func(d *impl.Disk)) {
		d := someDisk(impl.DiskForever)
		do(&d)
		list[name] = d
	}
	change("a block too few", func(d *impl.Disk) { d.Blocks = d.Blocks[:139] })
	change("a block too many", func(d *impl.Disk) { d.Blocks = append(d.Blocks, "") })
	change("a long first block", func(d *impl.Disk) { d.Blocks[0] = strings.Repeat("x", 201) })
	change("a long last block", func(d *impl.Disk) { d.Blocks[139] = strings.Repeat("x", 201) })
	change("a long wait", func(d *impl.Disk) { d.Waits[6].Text = strings.Repeat("x", 201) })
	change("a wait below", func(d *impl.Disk) { d.Waits[0].At = -1 })
	change("a wait behind", func(d *impl.Disk) { d.Waits[6].At = 140 })
	change("a wait far off", func(d *impl.Disk) { d.Waits[2].At = math.MaxInt })
	change("left below", func(d *impl.Disk) { d.Left = -2 })
	change("left far below", func(d *impl.Disk) { d.Left = math.MinInt })
	return list
}

func lefts() []int {
	return []int{impl.DiskForever, 0, 1, 2, 7, math.MaxInt}
}

func TestDiskNew(t *testing.T) {
	d := impl.DiskNew()
	if len(d.Blocks) != 140 || strings.Join(d.Blocks, "") != "" || len(d.Waits) != 0 || d.Left != -1 || !impl.DiskOk(d) {
		t.Error(d)
	}
	d.Blocks[0] = "mine"
	if impl.DiskRead(impl.DiskNew(), 0) != "" {
		t.Error("two new disks share blocks")
	}
}

func TestDiskOk(t *testing.T) {
	for _, left := range lefts() {
		if !impl.DiskOk(someDisk(left)) {
			t.Errorf("left %d", left)
		}
	}
	full := impl.DiskNew()
	for at := range full.Blocks {
		full.Blocks[at] = strings.Repeat("f", impl.BlockMax)
	}
	for range 500 {
		full.Waits = append(full.Waits, impl.Wait{At: 139, Text: full.Blocks[0]})
	}
	if !impl.DiskOk(full) {
		t.Error("a full disk")
	}
	for name, d := range badDisks() {
		if impl.DiskOk(d) {
			t.Error(name)
		}
	}
}

func TestBadDiskIsNothing(t *testing.T) {
	for name, d := range badDisks() {
		mustPanicNot(t, name, func() {
			if impl.DiskRead(d, 3) != "" || impl.DiskRead(d, 139) != "" {
				t.Errorf("%s: is read", name)
			}
			if !noDisk(impl.DiskWrite(d, 3, "x")) || !noDisk(impl.DiskWrite(d, -1, "x")) || !noDisk(impl.DiskFlush(d)) || !noDisk(impl.DiskCrash(d, 1)) {
				t.Errorf("%s: is something", name)
			}
		})
	}
}

func TestPromise2(t *testing.T) {
	for _, left := range lefts() {
		d := someDisk(left)
		for _, at := range []int{0, 1, 3, 5, 77, 138, 139} {
			for _, text := range []string{"", "new", "one", strings.Repeat("n", 200), "\x00\xff\n"} {
				after := impl.DiskWrite(d, at, text)
				if !impl.DiskOk(after) {
					t.Fatal(left, at)
				}
				for other := range impl.DiskBlocks {
					want := impl.DiskRead(d, other)
					if other == at && left != 0 {
						want = text
					}
					if impl.DiskRead(after, other) != want {
						t.Errorf("left %d: write of %q to %d: block %d is %q", left, text, at, other, impl.DiskRead(after, other))
					}
				}
				if !sameTexts(after.Blocks, d.Blocks) {
					t.Errorf("left %d: a write is in a block, not flushed", left)
				}
			}
		}
	}
}

func TestReadNewest(t *testing.T) {
	d := someDisk(impl.DiskForever)
	for at, want := range map[int]string{0: "second", 3: "three", 139: "", 5: strings.Repeat("x", 200), 6: "kept kkkkkk", 1: ""} {
		if got := impl.DiskRead(d, at); got != want {
			t.Errorf("block %d: %q", at, got)
		}
	}
	for _, at := range []int{-1, 140, 141, math.MinInt, math.MaxInt} {
		if impl.DiskRead(d, at) != "" {
			t.Errorf("block %d is there", at)
		}
	}
}

func TestRefusedWrite(t *testing.T) {
	long := strings.Repeat("x", 201)
	for _, left := range lefts() {
		d := someDisk(left)
		for _, c := range []impl.Wait{{At: -1, Text: "x"}, {At: 140, Text: "x"}, {At: math.MinInt, Text: "x"}, {At: math.MaxInt, Text: "x"}, {At: 3, Text: long}, {At: 140, Text: long}} {
			if after := impl.DiskWrite(d, c.At, c.Text); !sameDisk(after, d) {
				t.Errorf("left %d: a write of %d bytes to %d changes the disk", left, len(c.Text), c.At)
			}
		}
		most := impl.DiskWrite(d, 3, long[:200])
		if left != 0 && (len(most.Waits) != 8 || most.Waits[7] != impl.Wait{At: 3, Text: long[:200]}) {
			t.Errorf("left %d: a write of 200 bytes is refused", left)
		}
	}
}

func TestPromise3(t *testing.T) {
	for _, left := range lefts() {
		if left == 0 {
			continue
		}
		d := someDisk(left)
		after := impl.DiskFlush(d)
		if len(after.Waits) != 0 || !impl.DiskOk(after) {
			t.Errorf("left %d: %v waits", left, after.Waits)
		}
		for _, mask := range []int{0, 1, 5, 127, math.MaxInt} {
			crashed := impl.DiskCrash(after, mask)
			for at := range impl.DiskBlocks {
				want := impl.DiskRead(d, at)
				if impl.DiskRead(after, at) != want || impl.DiskRead(crashed, at) != want {
					t.Errorf("left %d, mask %d: block %d", left, mask, at)
				}
			}
		}
	}
}

// Each mask of seven that wait, of which three are for one block and two for another.
func TestPromise4(t *testing.T) {
	for _, left := range lefts() {
		d := someDisk(left)
		for mask := range 128 {
			want := append([]string(nil), d.Blocks...)
			for i, wait := range d.Waits {
				if mask>>i&1 == 1 {
					want[wait.At] = wait.Text
				}
			}
			after := impl.DiskCrash(d, mask)
			if !sameDisk(after, impl.Disk{Blocks: want, Left: impl.DiskForever}) {
				t.Errorf("left %d, mask %d", left, mask)
			}
		}
		none, all := impl.DiskCrash(d, 0), impl.DiskCrash(d, math.MaxInt)
		for at := range impl.DiskBlocks {
			if impl.DiskRead(none, at) != d.Blocks[at] || impl.DiskRead(all, at) != impl.DiskRead(d, at) {
				t.Errorf("left %d: block %d", left, at)
			}
		}
		for _, mask := range []int{-1, -2, math.MinInt} {
			if !noDisk(impl.DiskCrash(d, mask)) {
				t.Errorf("mask %d", mask)
			}
		}
	}
}

func TestPromise4TwoWrites(t *testing.T) {
	d := impl.DiskFlush(impl.DiskWrite(impl.DiskNew(), 9, "old"))
	d = impl.DiskWrite(impl.DiskWrite(d, 9, "first"), 9, "second")
	for mask, want := range []string{"old", "first", "second", "second"} {
		if got := impl.DiskRead(impl.DiskCrash(d, mask), 9); got != want {
			t.Errorf("mask %d: %q", mask, got)
		}
	}
}

// The 61st that waits goes by the first bit again, and so on.
func TestPromise4ManyWait(t *testing.T) {
	d := impl.DiskNew()
	for at := range 130 {
		d = impl.DiskWrite(d, at, "new")
	}
	for _, mask := range []int{0, 1, 1 << 1, 1 << 59, 1 << 60, 1 << 61, 1<<62 | 1<<59, 0x0a5a5a5a5a5a5a5a, 1<<60 - 1, math.MaxInt} {
		after := impl.DiskCrash(d, mask)
		for at := range impl.DiskBlocks {
			stays := at < 130 && mask>>(at%60)&1 == 1
			if (impl.DiskRead(after, at) == "new") != stays {
				t.Errorf("mask %x: block %d", mask, at)
			}
		}
	}
}

func TestPromise5(t *testing.T) {
	d := someDisk(0)
	if !sameDisk(impl.DiskWrite(d, 3, "x"), d) || !sameDisk(impl.DiskFlush(d), d) {
		t.Error("a disk that stopped does something")
	}
	for _, left := range lefts() {
		want := left - 1
		if left <= 0 {
			want = left
		}
		d := someDisk(left)
		if got := impl.DiskWrite(d, 3, "x").Left; got != want {
			t.Errorf("left %d: %d behind a write", left, got)
		}
		if got := impl.DiskFlush(d).Left; got != want {
			t.Errorf("left %d: %d behind a flush", left, got)
		}
		d.Waits = nil
		if got := impl.DiskFlush(d).Left; got != want {
			t.Errorf("left %d: %d behind a flush of nothing", left, got)
		}
	}
}

// A disk stops ahead of the first write, between two, between the last one and the flush, or not.
func TestPromise5Stops(t *testing.T) {
	for left, c := range []struct {
		waits        int
		read, stayed string
	}{{0, "", ""}, {1, "a", ""}, {2, "b", ""}, {0, "b", "b"}, {0, "b", "b"}} {
		d := impl.DiskNew()
		d.Left = left
		d = impl.DiskFlush(impl.DiskWrite(impl.DiskWrite(d, 7, "a"), 7, "b"))
		if len(d.Waits) != c.waits || impl.DiskRead(d, 7) != c.read || d.Left != max(0, left-3) {
			t.Errorf("left %d: %v", left, d.Waits)
		}
		after := impl.DiskCrash(d, 0)
		if impl.DiskRead(after, 7) != c.stayed || after.Left != impl.DiskForever {
			t.Errorf("left %d: %q stayed", left, impl.DiskRead(after, 7))
		}
		if again := impl.DiskWrite(after, 7, "c"); impl.DiskRead(again, 7) != "c" {
			t.Errorf("left %d: the disk is still stopped behind a crash", left)
		}
	}
}

// What is answered shares no memory with what was asked, and what was asked stays, with the room behind its end.
func TestDiskMemory(t *testing.T) {
	d := someDisk(impl.DiskForever)
	blocks := append(d.Blocks, "behind")
	waits := append(d.Waits, impl.Wait{At: 1, Text: "behind"})
	d.Blocks, d.Waits = blocks[:140:141], waits[:7:8]
	before := copyDisk(d)
	for name, do := range map[string]func() impl.Disk{
		"write":   func() impl.Disk { return impl.DiskWrite(d, 3, "x") },
		"refused": func() impl.Disk { return impl.DiskWrite(d, 140, "x") },
		"flush":   func() impl.Disk { return impl.DiskFlush(d) },
		"crash":   func() impl.Disk { return impl.DiskCrash(d, 127) },
	} {
		after := do()
		for i := range after.Blocks {
			after.Blocks[i] = "spoilt"
		}
		for i := range after.Waits {
			after.Waits[i].Text = "spoilt"
		}
		_ = append(after.Waits, impl.Wait{Text: "spoilt"})
		_ = append(after.Blocks, "spoilt")
		if !sameDisk(d, before) || blocks[140] != "behind" || waits[7].Text != "behind" {
			t.Fatalf("%s: the disk is changed", name)
		}
	}
	d.Left = 0
	if after := impl.DiskWrite(d, 3, "x"); &after.Blocks[0] == &d.Blocks[0] || &after.Waits[0] == &d.Waits[0] {
		t.Error("a stopped disk is given back as it is")
	}
}

// Any steps do just what a plain list of them would.
func TestDiskAnySteps(t *testing.T) {
	c := chance(7)
	for range 60 {
		d, want := someDisk(c.next(30)-1), someDisk(0)
		want.Left = d.Left
		for range 40 {
			at, text := c.next(142)-1, c.text(c.next(203))
			switch flush := c.next(5) == 0; {
			case flush && want.Left != 0:
				for _, wait := range want.Waits {
					want.Blocks[wait.At] = wait.Text
				}
				want.Waits, want.Left = nil, max(-1, want.Left-1)
				d = impl.DiskFlush(d)
			case flush:
				d = impl.DiskFlush(d)
			default:
				if want.Left != 0 && at >= 0 && at < 140 && len(text) <= 200 {
					want.Waits, want.Left = append(want.Waits, impl.Wait{At: at, Text: text}), max(-1, want.Left-1)
				}
				d = impl.DiskWrite(d, at, text)
			}
			if !sameDisk(d, want) {
				t.Fatal("steps differ")
			}
		}
	}
}
