package tests

import (
	"strings"
	"testing"

	"loop.example/muniment/impl"
)

// chance is a row of numbers that is the same in each run.
type chance uint64

// next is one of 0..n-1.
func (c *chance) next(n int) int {
	*c = *c*6364136223846793005 + 1442695040888963407
	return int(uint64(*c) >> 33 % uint64(n))
}

// text is so many bytes, any of them.
func (c *chance) text(size int) string {
	list := make([]byte, size)
	for i := range list {
		list[i] = byte(c.next(256))
	}
	return string(list)
}

// mustPanicNot does something, and fails the test if it panics.
func mustPanicNot(t *testing.T, what string, do func()) {
	t.Helper()
	defer func() {
		if r := recover(); r != nil {
			t.Errorf("%s panics: %v", what, r)
		}
	}()
	do()
}

// sameTexts says whether two lists have the same texts; no list is an empty one.
func sameTexts(a, b []string) bool {
	if len(a) != len(b) {
		return false
	}
	for i := range a {
		if a[i] != b[i] {
			return false
		}
	}
	return true
}

// sameWaits says whether two lists have the same waits; no list is an empty one.
func sameWaits(a, b []impl.Wait) bool {
	if len(a) != len(b) {
		return false
	}
	for i := range a {
		if a[i] != b[i] {
			return false
		}
	}
	return true
}

// sameDisk says whether two disks are the same.
func sameDisk(a, b impl.Disk) bool {
	return sameTexts(a.Blocks, b.Blocks) && sameWaits(a.Waits, b.Waits) && a.Left == b.Left
}

// copyDisk is a disk that shares nothing with another one.
func copyDisk(d impl.Disk) impl.Disk {
	return impl.Disk{
		Blocks: append([]string(nil), d.Blocks...),
		Waits:  append([]impl.Wait(nil), d.Waits...),
		Left:   d.Left,
	}
}

// noDisk says whether a disk is nothing.
func noDisk(d impl.Disk) bool {
	return sameDisk(d, impl.Disk{})
}

// letters is so many bytes, no piece of 140 of them like another one.
func letters(size int) string {
	var text strings.Builder
	for i := 0; text.Len() < size; i++ {
		text.WriteByte(byte('a' + i%26))
		text.WriteByte(byte('A' + i/26%26))
		text.WriteByte(byte('0' + i/676%10))
	}
	return text.String()[:size]
}
