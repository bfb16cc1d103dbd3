package impl

import (
	"iter"
	"strconv"
	"strings"
)

// FrameMax bounds what a frame has.
const FrameMax = 2000

// Bounds of a piece and of its sum, and of the numbers of a frame.
const (
	framePiece  = BlockMax - 60
	frameSum    = 16
	frameNumMax = 99999999
)

// Bounds of the figures of a number that is read, and of a name.
const (
	wireFigures = 8
	nameMax     = 6
)

// FramePut cuts a text into blocks, each with a sum, of a number in a turn.
func FramePut(turn int, num int, text string) []string {
	if !frameOk(turn, num, text) {
		return nil
	}
	blocks := make([]string, 0, frameParts(len(text)))
	for block := range frameBlocks(turn, num, text) {
		blocks = append(blocks, block)
	}
	return blocks
}

// FrameGet reads the text of blocks, from the first on, of a number in a turn; how many blocks it has, 0 if there is none.
func FrameGet(turn int, num int, blocks []string) (string, int) {
	parts := frameTold(turn, num, blocks)
	text, ok := frameJoin(turn, num, blocks[:parts])
	if !ok || !frameIs(turn, num, text, blocks[:parts]) {
		return "", 0
	}
	return text, parts
}

// WirePut writes words as bytes.
func WirePut(list []string) string {
	var text strings.Builder
	for _, word := range list {
		size := strconv.Itoa(len(word))
		if text.Len()+len(size)+len(word)+2 > FrameMax {
			return ""
		}
		text.WriteString(size)
		text.WriteByte(':')
		text.WriteString(word)
		text.WriteByte(',')
	}
	return text.String()
}

// WireGet reads words.
func WireGet(text string) ([]string, bool) {
	if len(text) > FrameMax {
		return nil, false
	}
	var words []string
	for text != "" {
		word, rest, ok := wireWord(text)
		if !ok {
			return nil, false
		}
		words = append(words, word)
		text = rest
	}
	return words, true
}

// NameOk says whether a text is a name.
func NameOk(text string) bool {
	if text == "" || len(text) > nameMax {
		return false
	}
	for i := range len(text) {
		if text[i] < 'a' || text[i] > 'z' {
			return false
		}
	}
	return true
}

// frameOk says whether a text can be cut, as this number of this turn.
func frameOk(turn int, num int, text string) bool {
	return turn >= 0 && turn <= frameNumMax && num >= 0 && num <= frameNumMax && len(text) <= FrameMax
}

// frameParts is into how many pieces a text of so many bytes is cut; even an empty one has a piece.
func frameParts(size int) int {
	return max(1, (size+framePiece-1)/framePiece)
}

// frameHead is what stands between the sum and the piece.
func frameHead(turn int, num int, part int, parts int) string {
	return strconv.Itoa(turn) + " " + strconv.Itoa(num) + " " + strconv.Itoa(part) + " " + strconv.Itoa(parts) + ":"
}

// frameBlocks tells the blocks of a text one by one, so that who only holds them against others can stop early.
func frameBlocks(turn int, num int, text string) iter.Seq[string] {
	return func(yield func(string) bool) {
		parts := frameParts(len(text))
		for part := range parts {
			begin := part * framePiece
			piece := text[begin:min(begin+framePiece, len(text))]
			head := frameHead(turn, num, part, parts)
			if !yield(HashSum(head + text)[:frameSum] + head + piece) {
				return
			}
		}
	}
}

// frameTold is how many parts the first block tells of; 0, if it is none, or there cannot be so many.
func frameTold(turn int, num int, blocks []string) int {
	if len(blocks) == 0 || len(blocks[0]) < frameSum {
		return 0
	}
	ahead := strconv.Itoa(turn) + " " + strconv.Itoa(num) + " 0 "
	rest, ok := strings.CutPrefix(blocks[0][frameSum:], ahead)
	if !ok {
		return 0
	}
	figures, _, _ := strings.Cut(rest, ":")
	parts, ok := wireNum(figures)
	if !ok || parts > len(blocks) || parts > frameParts(FrameMax) {
		return 0
	}
	return parts
}

// frameJoin puts the pieces of blocks together; false, if a head is not that of its place. Sums are not looked at.
func frameJoin(turn int, num int, blocks []string) (string, bool) {
	var text strings.Builder
	for part, block := range blocks {
		if len(block) < frameSum {
			return "", false
		}
		piece, ok := strings.CutPrefix(block[frameSum:], frameHead(turn, num, part, len(blocks)))
		if !ok {
			return "", false
		}
		text.WriteString(piece)
	}
	return text.String(), true
}

// frameIs says whether blocks are just what is made of a text, with the same sums and the same cuts.
func frameIs(turn int, num int, text string, blocks []string) bool {
	if !frameOk(turn, num, text) || len(blocks) != frameParts(len(text)) {
		return false
	}
	part := 0
	for block := range frameBlocks(turn, num, text) {
		if blocks[part] != block {
			return false
		}
		part++
	}
	return true
}

// wireWord reads the first word, and tells what stands behind it.
func wireWord(text string) (string, string, bool) {
	figures, rest, _ := strings.Cut(text, ":")
	size, ok := wireNum(figures)
	if !ok || size >= len(rest) || rest[size] != ',' {
		return "", "", false
	}
	return rest[:size], rest[size+1:], true
}

// wireNum reads a number as it is written: short, of figures alone, without noughts ahead.
func wireNum(figures string) (int, bool) {
	if figures == "" || len(figures) > wireFigures || len(figures) > 1 && figures[0] == '0' {
		return 0, false
	}
	num := 0
	for i := range len(figures) {
		if figures[i] < '0' || figures[i] > '9' {
			return 0, false
		}
		num = 10*num + int(figures[i]-'0')
	}
	return num, true
}
