// Package noise has lists for tests: they look like noise, and are the same ones each time. It also does to bytes what noise on a line does.
package noise

import (
	"bytes"
	"iter"
)

// Words returns n words.
func Words(n int) []uint16 {
	l := make([]uint16, max(0, n))
	x := uint32(n)*2654435761 + 1
	for i := range l {
		x = x*1664525 + 1013904223
		l[i] = uint16(x >> 16)
	}
	return l
}

// Bytes returns n bytes.
func Bytes(n int) []byte {
	words := Words(n)
	l := make([]byte, len(words))
	for i, w := range words {
		l[i] = byte(w >> 8)
	}
	return l
}

// Bits returns n bits.
func Bits(n int) []bool {
	words := Words(n)
	l := make([]bool, len(words))
	for i, w := range words {
		l[i] = w>>15 == 1
	}
	return l
}

// Inverted returns b with those bits inverted, from a place on, that are 1 in the pattern; bits are counted as they come on a line, the lowest one of a byte first. What the pattern has beyond the end is left out.
func Inverted(b []byte, at int, pattern uint16) []byte {
	out := bytes.Clone(b)
	for i := max(0, at); pattern > 0 && i < 8*len(out); i, pattern = i+1, pattern>>1 {
		out[i/8] ^= byte(pattern&1) << (i % 8)
	}
	return out
}

// Bursts yields b with some bits inverted within 16 neighbouring ones, in each way that there is once.
func Bursts(b []byte) iter.Seq[[]byte] {
	return func(yield func([]byte) bool) {
		bits := 8 * len(b)
		for at := range bits {
			// The first bit is always inverted: a pattern without it begins at a later place.
			for pattern := 1; pattern < 1<<min(16, bits-at); pattern += 2 {
				if !yield(Inverted(b, at, uint16(pattern))) {
					return
				}
			}
		}
	}
}
