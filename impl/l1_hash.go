// Package impl: things in spaces, each with all that it may use, kept by a store on blocks of a disk.
package impl

import (
	"math/bits"
	"strings"
)

// hashBlock is how many bytes are mixed in at once.
const hashBlock = 64

// hashFigures are the figures of 0 to 15.
const hashFigures = "0123456789abcdef"

// hashBegin has the fractional parts of the square roots of the first 8 primes.
var hashBegin = [8]uint32{
	0x6a09e667, 0xbb67ae85, 0x3c6ef372, 0xa54ff53a, 0x510e527f, 0x9b05688c, 0x1f83d9ab, 0x5be0cd19,
}

// hashRounds has the fractional parts of the cube roots of the first 64 primes.
var hashRounds = [64]uint32{
	0x428a2f98, 0x71374491, 0xb5c0fbcf, 0xe9b5dba5, 0x3956c25b, 0x59f111f1, 0x923f82a4, 0xab1c5ed5,
	0xd807aa98, 0x12835b01, 0x243185be, 0x550c7dc3, 0x72be5d74, 0x80deb1fe, 0x9bdc06a7, 0xc19bf174,
	0xe49b69c1, 0xefbe4786, 0x0fc19dc6, 0x240ca1cc, 0x2de92c6f, 0x4a7484aa, 0x5cb0a9dc, 0x76f988da,
	0x983e5152, 0xa831c66d, 0xb00327c8, 0xbf597fc7, 0xc6e00bf3, 0xd5a79147, 0x06ca6351, 0x14292967,
	0x27b70a85, 0x2e1b2138, 0x4d2c6dfc, 0x53380d13, 0x650a7354, 0x766a0abb, 0x81c2c92e, 0x92722c85,
	0xa2bfe8a1, 0xa81a664b, 0xc24b8b70, 0xc76c51a3, 0xd192e819, 0xd6990624, 0xf40e3585, 0x106aa070,
	0x19a4c116, 0x1e376c08, 0x2748774c, 0x34b0bcb5, 0x391c0cb3, 0x4ed8aa4a, 0x5b9cca4f, 0x682e6ff3,
	0x748f82ee, 0x78a5636f, 0x84c87814, 0x8cc70208, 0x90befffa, 0xa4506ceb, 0xbef9a3f7, 0xc67178f2,
}

// hashState is what the blocks so far were mixed to.
type hashState struct {
	words [8]uint32
}

// HashSum is the SHA-256 of a text, in 64 figures.
func HashSum(text string) string {
	// Only the end is copied, to be filled up: a text may be long.
	whole := len(text) - len(text)%hashBlock
	state := hashState{words: hashBegin}
	state.mixAll(text[:whole])
	state.mixAll(text[whole:] + hashEnd(len(text)))
	return state.figures()
}

// hashEnd is what is put behind a text of so many bytes, to make whole blocks of it.
func hashEnd(size int) string {
	var end strings.Builder
	end.WriteByte(128)
	for (size+end.Len()+8)%hashBlock != 0 {
		end.WriteByte(0)
	}
	count := uint64(size) * 8
	for shift := 56; shift >= 0; shift -= 8 {
		end.WriteByte(byte(count >> shift))
	}
	return end.String()
}

// mixAll mixes in whole blocks.
func (s *hashState) mixAll(text string) {
	for at := 0; at < len(text); at += hashBlock {
		s.mix(hashSpread(text[at : at+hashBlock]))
	}
}

// hashSpread makes of one block a word for each round.
func hashSpread(block string) [64]uint32 {
	var spread [64]uint32
	for i := range 16 {
		at := 4 * i
		spread[i] = uint32(block[at])<<24 | uint32(block[at+1])<<16 | uint32(block[at+2])<<8 | uint32(block[at+3])
	}
	for i := 16; i < 64; i++ {
		far, near := spread[i-15], spread[i-2]
		low := bits.RotateLeft32(far, -7) ^ bits.RotateLeft32(far, -18) ^ far>>3
		high := bits.RotateLeft32(near, -17) ^ bits.RotateLeft32(near, -19) ^ near>>10
		spread[i] = spread[i-16] + low + spread[i-7] + high
	}
	return spread
}

// mix does the rounds of one block; the names of the words are those of FIPS 180-4.
func (s *hashState) mix(spread [64]uint32) {
	a, b, c, d := s.words[0], s.words[1], s.words[2], s.words[3]
	e, f, g, h := s.words[4], s.words[5], s.words[6], s.words[7]
	for i, root := range hashRounds {
		turned := bits.RotateLeft32(e, -6) ^ bits.RotateLeft32(e, -11) ^ bits.RotateLeft32(e, -25)
		first := h + turned + (e&f ^ ^e&g) + root + spread[i]
		turned = bits.RotateLeft32(a, -2) ^ bits.RotateLeft32(a, -13) ^ bits.RotateLeft32(a, -22)
		second := turned + (a&b ^ a&c ^ b&c)
		a, b, c, d, e, f, g, h = first+second, a, b, c, d+first, e, f, g
	}
	for i, word := range [8]uint32{a, b, c, d, e, f, g, h} {
		s.words[i] += word
	}
}

// figures writes the words, the highest figure first.
func (s *hashState) figures() string {
	var text strings.Builder
	for _, word := range s.words {
		for shift := 28; shift >= 0; shift -= 4 {
			text.WriteByte(hashFigures[word>>shift&15])
		}
	}
	return text.String()
}
