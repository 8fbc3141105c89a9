// Package crc computes the check sum of frames on a serial line; it is layer 1: see shared/doc/01-crc.md.
package crc

import "saucier/api"

const (
	start = 65535 // the check sum of no bytes
	poly  = 40961 // what a bit that is 1 leaves behind when it is shifted out
	size  = 2     // bytes of a check sum
)

// Next returns the check sum after one more byte.
func Next(sum uint16, c byte) uint16 {
	t := table()
	return next(&t, sum, c)
}

// Sum returns the check sum of b.
func Sum(b []byte) uint16 {
	// Made once for all bytes: a table a byte would cost more than it saves.
	t := table()
	sum := uint16(start)
	for _, c := range b {
		sum = next(&t, sum, c)
	}
	return sum
}

// Put returns b followed by its check sum, the lower eight bits first.
func Put(b []byte) []byte {
	// Room of its own: an append to b could write into memory behind it.
	out := make([]byte, len(b), len(b)+size)
	copy(out, b)
	low, high := halves(Sum(b))
	return append(out, low, high)
}

// Cut returns the bytes before the check sum that b ends with.
func Cut(b []byte) ([]byte, api.Errno) {
	n := len(b) - size
	if n < 0 {
		return nil, api.ErrFrame
	}
	low, high := halves(Sum(b[:n]))
	if b[n] != low || b[n+1] != high {
		return nil, api.ErrCheck
	}
	out := make([]byte, n)
	copy(out, b)
	return out, api.OK
}

// halves returns the lower and the upper eight bits of a check sum.
func halves(sum uint16) (low, high byte) { return byte(sum), byte(sum >> 8) }

// next takes in one more byte, four bits at a time.
func next(t *[16]uint16, sum uint16, c byte) uint16 {
	sum ^= uint16(c)
	for range 2 {
		sum = sum>>4 ^ t[sum&15]
	}
	return sum
}

// table returns what becomes of each four bits when they are shifted out. The bits above them are only shifted meanwhile, so that both can be computed apart, and combined.
func table() [16]uint16 {
	var t [16]uint16
	for i := range uint16(16) {
		sum := i
		for range 4 {
			sum = shift(sum)
		}
		t[i] = sum
	}
	return t
}

// shift takes one bit out of a check sum.
func shift(sum uint16) uint16 {
	if sum&1 == 1 {
		return sum>>1 ^ poly
	}
	return sum >> 1
}
