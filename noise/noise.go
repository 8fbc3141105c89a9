// Package noise has lists for tests: they look like noise, and are the same ones each time.
package noise

// Words returns n words.
func Words(n int) []uint16 {
	l := make([]uint16, max(0, n))
	x := uint32(n)*2654435761 + 1
	for i := range l {
		x = x*1664525 + 1013904223
		l[i] = uint16(x >> 16)
	}
	return l
}

// Bytes returns n bytes.
func Bytes(n int) []byte {
	words := Words(n)
	l := make([]byte, len(words))
	for i, w := range words {
		l[i] = byte(w >> 8)
	}
	return l
}

// Bits returns n bits.
func Bits(n int) []bool {
	words := Words(n)
	l := make([]bool, len(words))
	for i, w := range words {
		l[i] = w>>15 == 1
	}
	return l
}
