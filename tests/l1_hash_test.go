package tests

import (
	"crypto/sha256"
	"encoding/hex"
	"strings"
	"testing"

	"loop.example/muniment/impl"
)

func worldSum(text string) string {
	sum := sha256.Sum256([]byte(text))
	return hex.EncodeToString(sum[:])
}

func TestPromise1Known(t *testing.T) {
	for _, c := range []struct{ text, sum string }{
		{"abc", "ba7816bf8f01cfea414140de5dae2223b00361a396177a9cb410ff61f20015ad"},
		{"", "e3b0c44298fc1c149afbf4c8996fb92427ae41e4649b934ca495991b7852b855"},
		{"abcdbcdecdefdefgefghfghighijhijkijkljklmklmnlmnomnopnopq", "248d6a61d20638b8e5c026930c3e6039a33ce45964ff2167f6ecedd419db06c1"},
		{strings.Repeat("a", 1000000), "cdc76e5c9914fb9281a1c7e284d73e67f1809a48a497200e046d39ccc7112cd0"},
	} {
		if got := impl.HashSum(c.text); got != c.sum {
			t.Errorf("a text of %d bytes: %s", len(c.text), got)
		}
	}
}

// Each size around where an end needs another block, with any bytes.
func TestPromise1Sizes(t *testing.T) {
	c := chance(1)
	for size := range 400 {
		text := c.text(size)
		if got := impl.HashSum(text); got != worldSum(text) {
			t.Errorf("%d bytes: %s", size, got)
		}
	}
	for _, size := range []int{2000, 4095, 4096, 70000} {
		text := c.text(size)
		if got := impl.HashSum(text); got != worldSum(text) {
			t.Errorf("%d bytes: %s", size, got)
		}
	}
}

func TestPromise1Figures(t *testing.T) {
	for b := range 256 {
		sum := impl.HashSum(string([]byte{byte(b)}))
		if len(sum) != 64 || strings.Trim(sum, "0123456789abcdef") != "" || sum != worldSum(string([]byte{byte(b)})) {
			t.Errorf("byte %d: %q", b, sum)
		}
	}
}
