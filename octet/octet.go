// Package octet is layer 1: bytes, and words of 16 bits.
package octet

import (
	"math/bits"
)

// High: a word's high byte.
func High(w uint16) byte { return byte(w >> 8) }

// Low: its low byte.
func Low(w uint16) byte { return byte(w) }

// Word: the word of two bytes.
func Word(hi, lo byte) uint16 { return uint16(hi)<<8 | uint16(lo) }

// Sign: a byte as a word, its sign kept.
func Sign(b byte) uint16 { return uint16(int8(b)) }

// Sign5: the lowest five bits of a byte as a word, their sign kept.
func Sign5(b byte) uint16 {
	// The five bits go up to where a byte has its sign, and come back with it.
	return uint16(int8(b<<3) >> 3)
}

// Ones: how many bits of bytes are 1.
func Ones(b ...byte) int {
	n := 0
	for _, x := range b {
		n += bits.OnesCount8(x)
	}
	return n
}

// Sum: the sum of bytes, modulo 256.
func Sum(b ...byte) byte {
	var s byte
	for _, x := range b {
		s += x
	}
	return s
}

// Words: bytes by twos, the high one first (a last one alone: 0 behind it).
func Words(b ...byte) []uint16 {
	out := make([]uint16, 0, (len(b)+1)/2)
	for i := 0; i < len(b); i += 2 {
		var lo byte
		if i+1 < len(b) {
			lo = b[i+1]
		}
		out = append(out, Word(b[i], lo))
	}
	return out
}

// Bytes: the bytes of words, the high one first.
func Bytes(w ...uint16) []byte {
	out := make([]byte, 0, 2*len(w))
	for _, x := range w {
		out = append(out, High(x), Low(x))
	}
	return out
}
