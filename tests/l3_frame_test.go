package tests

import (
	"math"
	"strconv"
	"strings"
	"testing"

	"loop.example/muniment/impl"
)

// frameSizes are around each cut, and the limit.
func frameSizes() []int {
	return []int{0, 1, 2, 139, 140, 141, 279, 280, 281, 1399, 1400, 1959, 1960, 1961, 1999, 2000}
}

// frameByHand makes blocks of pieces that are cut as the caller likes, with right sums of all of the text.
func frameByHand(turn, num, parts string, pieces ...string) []string {
	var blocks []string
	text := strings.Join(pieces, "")
	for part, piece := range pieces {
		head := turn + " " + num + " " + strconv.Itoa(part) + " " + parts + ":"
		blocks = append(blocks, impl.HashSum(head + text)[:16]+head+piece)
	}
	return blocks
}

func mustBeNoFrame(t *testing.T, what string, turn, num int, blocks []string) {
	t.Helper()
	mustPanicNot(t, what, func() {
		if text, n := impl.FrameGet(turn, num, blocks); text != "" || n != 0 {
			t.Errorf("%s: %q and %d", what, text, n)
		}
	})
}

func TestPromise6(t *testing.T) {
	c := chance(3)
	for _, size := range frameSizes() {
		for _, text := range []string{letters(size), strings.Repeat(":", size), c.text(size)} {
			for _, turn := range []int{0, 1, 99999999} {
				for _, num := range []int{0, 8, 99999999} {
					blocks := impl.FramePut(turn, num, text)
					if len(blocks) != max(1, (size+139)/140) {
						t.Fatalf("%d bytes: %d blocks", size, len(blocks))
					}
					for _, block := range blocks {
						if len(block) > impl.BlockMax {
							t.Errorf("%d bytes: a block of %d", size, len(block))
						}
					}
					for _, behind := range [][]string{nil, {""}, {"x", blocks[0]}, blocks} {
						all := append(append([]string(nil), blocks...), behind...)
						if got, n := impl.FrameGet(turn, num, all); got != text || n != len(blocks) {
							t.Errorf("%d bytes, %d behind: %d", size, len(behind), n)
						}
					}
				}
			}
		}
	}
}

func TestFramePutForm(t *testing.T) {
	for _, size := range frameSizes() {
		text := letters(size)
		var pieces []string
		for rest := text; len(rest) > 0 || len(pieces) == 0; {
			cut := min(140, len(rest))
			pieces, rest = append(pieces, rest[:cut]), rest[cut:]
		}
		want := frameByHand("12", "345", strconv.Itoa(len(pieces)), pieces...)
		if got := impl.FramePut(12, 345, text); !sameTexts(got, want) {
			t.Errorf("%d bytes: %q", size, got)
		}
	}
	if got := impl.FramePut(0, 0, ""); !sameTexts(got, []string{impl.HashSum("0 0 0 1:")[:16] + "0 0 0 1:"}) {
		t.Errorf("an empty text: %q", got)
	}
}

func TestFramePutRefuses(t *testing.T) {
	for _, bad := range []int{-1, 100000000, math.MinInt, math.MaxInt} {
		if len(impl.FramePut(bad, 0, "x")) != 0 || len(impl.FramePut(0, bad, "x")) != 0 {
			t.Errorf("%d is taken", bad)
		}
		figures := strconv.Itoa(bad)
		mustBeNoFrame(t, "a bad turn", bad, 0, frameByHand(figures, "0", "1", "x"))
		mustBeNoFrame(t, "a bad number", 0, bad, frameByHand("0", figures, "1", "x"))
		mustBeNoFrame(t, "a bad turn of nothing", bad, 0, nil)
	}
	if len(impl.FramePut(1, 1, letters(2001))) != 0 || len(impl.FramePut(1, 1, letters(9000))) != 0 {
		t.Error("a long text is taken")
	}
}

func TestPromise7Others(t *testing.T) {
	for _, size := range frameSizes() {
		blocks := impl.FramePut(7, 8, letters(size))
		mustBeNoFrame(t, "the next turn", 8, 8, blocks)
		mustBeNoFrame(t, "the turn ahead", 6, 8, blocks)
		mustBeNoFrame(t, "the next number", 7, 9, blocks)
		mustBeNoFrame(t, "the number ahead", 7, 7, blocks)
		mustBeNoFrame(t, "turn and number changed", 8, 7, blocks)
		mustBeNoFrame(t, "another turn that begins so", 70, 8, blocks)
		mustBeNoFrame(t, "without the last", 7, 8, blocks[:len(blocks)-1])
		mustBeNoFrame(t, "without the first", 7, 8, blocks[1:])
		mustBeNoFrame(t, "something ahead", 7, 8, append([]string{""}, blocks...))
		torn := append([]string(nil), blocks...)
		for i, block := range blocks {
			for _, other := range []string{"", block[:len(block)-1], block + "x", block[:16], block[:15], "x" + block, blocks[0] + blocks[len(blocks)-1]} {
				torn[i] = other
				mustBeNoFrame(t, "torn", 7, 8, torn)
			}
			torn[i] = block
		}
		for i := 1; i < len(blocks); i++ {
			torn[i-1], torn[i] = torn[i], torn[i-1]
			mustBeNoFrame(t, "in another order", 7, 8, torn)
			torn[i-1], torn[i] = torn[i], torn[i-1]
		}
	}
	mustBeNoFrame(t, "no blocks", 0, 0, nil)
	mustBeNoFrame(t, "empty blocks", 0, 0, make([]string, 20))
}

// Blocks with right sums that FramePut would not have made so.
func TestPromise7ByHand(t *testing.T) {
	long, piece := letters(2001), letters(140)
	var pieces []string
	for at := 0; at < 2001; at += 140 {
		pieces = append(pieces, long[at:min(at+140, 2001)])
	}
	for what, blocks := range map[string][]string{
		"a short first piece":      frameByHand("1", "2", "2", "a", "b"),
		"a long first piece":       frameByHand("1", "2", "2", piece+"a", "b"),
		"an empty last piece":      frameByHand("1", "2", "2", piece, ""),
		"two empty pieces":         frameByHand("1", "2", "2", "", ""),
		"a piece too long":         frameByHand("1", "2", "1", piece+"a"),
		"a text too long":          frameByHand("1", "2", "15", pieces...),
		"noughts ahead of parts":   frameByHand("1", "2", "01", "a"),
		"noughts ahead of turn":    frameByHand("01", "2", "1", "a"),
		"a sign ahead of parts":    frameByHand("1", "2", "+1", "a"),
		"no parts at all":          frameByHand("1", "2", "0", "a"),
		"parts below":              frameByHand("1", "2", "-1", "a"),
		"parts without figures":    frameByHand("1", "2", "", "a"),
		"parts with many figures":  frameByHand("1", "2", "99999999999999999999", "a"),
		"more parts than are told": frameByHand("1", "2", "1", piece, "b"),
		"fewer than are told":      frameByHand("1", "2", "3", piece, "b"),
		"many parts":               frameByHand("1", "2", "20", make([]string, 20)...),
	} {
		mustBeNoFrame(t, what, 1, 2, blocks)
	}
	if text, n := impl.FrameGet(1, 2, frameByHand("1", "2", "2", piece, "b")); text != piece+"b" || n != 2 {
		t.Error("blocks made by hand as FramePut makes them are none")
	}
}

// Sums of other texts, of other heads, of the piece alone, in other letters.
func TestPromise7Sums(t *testing.T) {
	for _, sum := range []string{
		impl.HashSum("1 2 0 1:b")[:16], impl.HashSum("a")[:16], impl.HashSum("1 2 1 2:a")[:16],
		impl.HashSum("1 2 0 1:a")[16:32], strings.ToUpper(impl.HashSum("1 2 0 1:a")[:16]), strings.Repeat("0", 16),
	} {
		mustBeNoFrame(t, sum, 1, 2, []string{sum + "1 2 0 1:a"})
	}
	if _, n := impl.FrameGet(1, 2, []string{impl.HashSum("1 2 0 1:a")[:16] + "1 2 0 1:a"}); n != 1 {
		t.Error("the right sum is none")
	}
}

func TestPromise8(t *testing.T) {
	for _, size := range []int{141, 280, 281, 700, 2000} {
		base := letters(size)
		for _, other := range []string{
			strings.Repeat("o", size), // no piece is alike
			"X" + base[1:],            // only the first piece is another one
			base[:size-1] + "!",       // only the last piece is another one
			base[:140] + "!" + base[141:],
		} {
			one, two := impl.FramePut(5, 6, base), impl.FramePut(5, 6, other)
			if len(one) != len(two) {
				t.Fatal(size)
			}
			for cut := 1; cut < len(one); cut++ {
				mustBeNoFrame(t, "two texts", 5, 6, append(append([]string(nil), one[:cut]...), two[cut:]...))
				mustBeNoFrame(t, "two texts", 5, 6, append(append([]string(nil), two[:cut]...), one[cut:]...))
			}
		}
	}
	short, long := impl.FramePut(5, 6, letters(150)), impl.FramePut(5, 6, letters(290))
	mustBeNoFrame(t, "a shorter one's first block", 5, 6, append(short[:1:1], long[1:]...))
	mustBeNoFrame(t, "a longer one's first block", 5, 6, append(long[:1:1], short[1:]...))
}

func TestPromise9(t *testing.T) {
	for _, size := range []int{0, 1, 140, 141, 421} {
		blocks := impl.FramePut(3, 12, letters(size))
		for i, block := range blocks {
			turned := append([]string(nil), blocks...)
			for at := range block {
				for bit := range 8 {
					list := []byte(block)
					list[at] ^= 1 << bit
					turned[i] = string(list)
					mustBeNoFrame(t, "a bit turned", 3, 12, turned)
				}
			}
		}
	}
}

func TestFrameMemory(t *testing.T) {
	blocks := impl.FramePut(1, 1, letters(300))
	before := append([]string(nil), blocks...)
	impl.FrameGet(1, 1, blocks[:3:3])
	words := append(make([]string, 0, 4), "a", "b", "c")
	wire := impl.WirePut(words[:2])
	if !sameTexts(blocks, before) || !sameTexts(words, []string{"a", "b", "c"}) || wire != "1:a,1:b," {
		t.Error("an argument is changed")
	}
	one, two := impl.FramePut(1, 1, letters(300)), impl.FramePut(1, 1, letters(300))
	one[0] = "spoilt"
	if two[0] != blocks[0] {
		t.Error("two answers share blocks")
	}
}

func TestPromise10(t *testing.T) {
	c := chance(5)
	lists := [][]string{
		nil, {""}, {"", ""}, {"a"}, {"", "a:b", ","}, {"1:a,"}, {strings.Repeat("x", 9)}, {strings.Repeat("x", 10)},
		{strings.Repeat("x", 99)}, {strings.Repeat("x", 100)}, {strings.Repeat("x", 1000)}, {strings.Repeat("x", 1994)},
		{"\x00", "\xff\xfe", "\n"}, make([]string, 666),
	}
	for range 300 {
		var list []string
		for range c.next(12) {
			list = append(list, c.text(c.next(130)))
		}
		lists = append(lists, list)
	}
	for i, list := range lists {
		want := ""
		for _, word := range list {
			want += strconv.Itoa(len(word)) + ":" + word + ","
		}
		text := impl.WirePut(list)
		if text != want {
			t.Fatalf("list %d: %q", i, text)
		}
		if got, ok := impl.WireGet(text); !ok || !sameTexts(got, list) {
			t.Errorf("list %d: %q", i, got)
		}
	}
}

func TestWireLimit(t *testing.T) {
	for _, list := range [][]string{
		{strings.Repeat("x", 1995)}, {strings.Repeat("x", 2000)}, {strings.Repeat("x", 70000)}, make([]string, 667),
		{strings.Repeat("x", 1989), "abc"}, {"", strings.Repeat("x", 1992)}, {strings.Repeat("x", 70000), "a"},
	} {
		if text := impl.WirePut(list); text != "" {
			t.Errorf("%d words: %d bytes", len(list), len(text))
		}
	}
	for _, list := range [][]string{{strings.Repeat("x", 1994)}, {strings.Repeat("x", 1989), "ab"}, {"", "", strings.Repeat("x", 1988)}} {
		text := impl.WirePut(list)
		if got, ok := impl.WireGet(text); len(text) != 2000 || !ok || !sameTexts(got, list) {
			t.Errorf("%d words: %d bytes", len(list), len(text))
		}
	}
	most := impl.WirePut([]string{strings.Repeat("x", 1989), ""}) + "0:,"
	if _, ok := impl.WireGet(most); len(most) != 2001 || ok {
		t.Errorf("%d bytes are words", len(most))
	}
	if words, ok := impl.WireGet("1995:" + strings.Repeat("x", 1995) + ","); ok || len(words) != 0 {
		t.Error("2001 bytes are words")
	}
}

func TestWireGetRefuses(t *testing.T) {
	for _, text := range []string{
		"x", ":", ",", ":,", "0", "0:", "1:a", "1:,", "2:a,", "0:a,", "01:a,", "00:,", "+1:a,", "-1:a,", "-0:,", " 1:a,", "1 :a,",
		"1:a,x", "1:a,1", "1:a,1:", "1:a,1:b", "1:a,,", "a:a,", "1;a,", "1:a;", "1a", "0x1:a,", "1.0:a,", "1_0:aaaaaaaaaa,",
		"000000000:,", "000000001:a,", "999999999:a,", "99999999:a,", "18446744073709551617:a,", "9223372036854775807:a,",
		"\xd9\xa1:a,", "1:a,\n", "\n1:a,", "1:ab,", "2:a,,b",
	} {
		mustPanicNot(t, text, func() {
			if words, ok := impl.WireGet(text); ok || len(words) != 0 {
				t.Errorf("%q is read: %q", text, words)
			}
		})
	}
	if words, ok := impl.WireGet(""); !ok || len(words) != 0 {
		t.Error("the empty text is not no words")
	}
}

// Bytes around the figures, with as many bytes behind as they would stand for, were they figures.
func TestWireGetOtherFigures(t *testing.T) {
	for b := range 256 {
		for _, ahead := range []string{"", "1"} {
			word := strings.Repeat("x", 10*len(ahead)+int(byte(b)-'0'))
			text := ahead + string([]byte{byte(b)}) + ":" + word + ","
			words, ok := impl.WireGet(text)
			if figure := b >= '0' && b <= '9'; ok != figure || figure && !sameTexts(words, []string{word}) {
				t.Errorf("%.5q: %v", text, ok)
			}
		}
	}
}

// What is read is what is written, of all texts of up to six of the bytes that matter.
func TestPromise10AnyText(t *testing.T) {
	const bytes = "01:,a"
	texts := []string{""}
	for at := 0; len(texts[at]) < 6; at++ {
		for _, b := range bytes {
			texts = append(texts, texts[at]+string(b))
		}
	}
	read := 0
	for _, text := range texts {
		words, ok := impl.WireGet(text)
		if ok && impl.WirePut(words) != text {
			t.Errorf("%q is read: %q", text, words)
		}
		if ok {
			read++
		}
	}
	// No words, the empty one once and twice, and one of each byte.
	if read != 8 {
		t.Errorf("%d texts are read", read)
	}
}

func TestPromise11(t *testing.T) {
	for b := range 256 {
		one := string([]byte{byte(b)})
		letter := b >= 'a' && b <= 'z'
		if impl.NameOk(one) != letter {
			t.Errorf("byte %d", b)
		}
		for size := range 9 {
			for at := range size {
				text := strings.Repeat("m", at) + one + strings.Repeat("m", size-at-1)
				if impl.NameOk(text) != (letter && size <= 6) {
					t.Errorf("%q", text)
				}
			}
		}
	}
	for text, want := range map[string]bool{"": false, "a": true, "az": true, "abcdef": true, "abcdefg": false, "\xc3\xa9": false, "all": true, "a b": false, strings.Repeat("a", 70000): false} {
		if impl.NameOk(text) != want {
			t.Errorf("%.20q", text)
		}
	}
}
