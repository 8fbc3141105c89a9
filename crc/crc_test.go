package crc_test

import (
	"bytes"
	"testing"

	"saucier/api"
	"saucier/crc"
	"saucier/noise"
)

// plainNext is the chapter's definition, bit by bit.
func plainNext(sum uint16, c byte) uint16 {
	sum ^= uint16(c)
	for range 8 {
		out := sum & 1
		sum >>= 1
		if out == 1 {
			sum ^= 40961
		}
	}
	return sum
}

// plainSum is the chapter's definition of the check sum of bytes.
func plainSum(b []byte) uint16 {
	sum := uint16(65535)
	for _, c := range b {
		sum = plainNext(sum, c)
	}
	return sum
}

// texts returns byte strings of many lengths, plain ones and noise.
func texts() [][]byte {
	l := [][]byte{nil, {}, {0}, {255}, {255, 255}, {0, 0}, {2, 7}, []byte("123456789")}
	for n := range 40 {
		l = append(l, make([]byte, n), bytes.Repeat([]byte{255}, n), noise.Bytes(n))
	}
	return append(l, noise.Bytes(253), noise.Bytes(254), noise.Bytes(256), noise.Bytes(70000))
}

// TestNext: P1.1, every check sum and every byte, though not every pair.
func TestNext(t *testing.T) {
	for sum := range 65536 {
		for _, c := range []byte{0, 1, 2, 15, 16, 90, 128, 165, 240, 255} {
			if got, want := crc.Next(uint16(sum), c), plainNext(uint16(sum), c); got != want {
				t.Fatalf("Next(%d, %d) = %d, want %d", sum, c, got, want)
			}
		}
	}
	for c := range 256 {
		for _, sum := range []uint16{0, 1, 16, 255, 256, 4673, 19255, 32768, 40961, 65280, 65534, 65535} {
			if got, want := crc.Next(sum, byte(c)), plainNext(sum, byte(c)); got != want {
				t.Fatalf("Next(%d, %d) = %d, want %d", sum, c, got, want)
			}
		}
	}
}

// TestSumExamples: P1.1, the chapter's examples, and known frames.
func TestSumExamples(t *testing.T) {
	for _, x := range []struct {
		b    []byte
		want uint16
	}{
		{nil, 65535},
		{[]byte{}, 65535},
		{[]byte{2, 7}, 4673},
		{[]byte("123456789"), 19255},
		{[]byte{1, 3, 0, 0, 0, 10}, 52677}, // 205 197 upon the line: C5 CD
		{[]byte{1, 131, 2}, 61888},         // C0 F1 upon the line
	} {
		if got := crc.Sum(x.b); got != x.want {
			t.Errorf("Sum(%v) = %d, want %d", x.b, got, x.want)
		}
	}
}

// TestSumByBytes: P1.1, the check sum of bytes goes on byte by byte.
func TestSumByBytes(t *testing.T) {
	for _, b := range texts() {
		if got, want := crc.Sum(b), plainSum(b); got != want {
			t.Errorf("Sum of %d bytes = %d, want %d", len(b), got, want)
		}
		sum := uint16(65535)
		for _, c := range b {
			sum = crc.Next(sum, c)
		}
		if got := crc.Sum(b); got != sum {
			t.Errorf("Sum of %d bytes = %d, and by Next %d", len(b), got, sum)
		}
	}
}

// TestPut: P1.2, the bytes, then the check sum with its lower half first.
func TestPut(t *testing.T) {
	if got := crc.Put([]byte{2, 7}); !bytes.Equal(got, []byte{2, 7, 65, 18}) {
		t.Error(got)
	}
	if got := crc.Put(nil); !bytes.Equal(got, []byte{255, 255}) {
		t.Error(got)
	}
	for _, b := range texts() {
		sum := plainSum(b)
		want := append(bytes.Clone(b), byte(sum), byte(sum>>8))
		if got := crc.Put(b); !bytes.Equal(got, want) {
			t.Errorf("Put of %d bytes = %v, want %v", len(b), got, want)
		}
	}
}

// TestPutMemory: P1.2 and R3, what is put is in memory of its own, and neither b nor its spare capacity changes.
func TestPutMemory(t *testing.T) {
	whole := []byte{1, 2, 3, 4, 5, 6}
	out := crc.Put(whole[:2])
	if !bytes.Equal(whole, []byte{1, 2, 3, 4, 5, 6}) {
		t.Error("the argument has changed:", whole)
	}
	want := bytes.Clone(out)
	clear(whole)
	if !bytes.Equal(out, want) {
		t.Error("the result has changed:", out)
	}
	again := crc.Put(whole[:2])
	clear(out[:cap(out)])
	if !bytes.Equal(again, crc.Put([]byte{0, 0})) {
		t.Error("two results share memory:", again)
	}
}

// TestCut: P1.2, what stands before a right check sum.
func TestCut(t *testing.T) {
	for _, x := range []struct{ b, want []byte }{
		{[]byte{255, 255}, nil},
		{[]byte{2, 7, 65, 18}, []byte{2, 7}},
		{[]byte{1, 3, 0, 0, 0, 10, 197, 205}, []byte{1, 3, 0, 0, 0, 10}},
	} {
		if got, e := crc.Cut(x.b); e != api.OK || !bytes.Equal(got, x.want) {
			t.Errorf("Cut(%v) = %v, %d", x.b, got, e)
		}
	}
}

// TestCutErrors: P1.2, too few bytes, and wrong check sums; all else is zero then (R2).
func TestCutErrors(t *testing.T) {
	for _, x := range []struct {
		b    []byte
		want api.Errno
	}{
		{nil, api.ErrFrame},
		{[]byte{}, api.ErrFrame},
		{[]byte{0}, api.ErrFrame},
		{[]byte{255}, api.ErrFrame},
		{[]byte{255, 255}[:1], api.ErrFrame}, // what lies behind does not count
		{[]byte{0, 0}, api.ErrCheck},
		{[]byte{255, 254}, api.ErrCheck},
		{[]byte{254, 255}, api.ErrCheck},
		{[]byte{2, 7}, api.ErrCheck},
		{[]byte{2, 7, 65}, api.ErrCheck},
		{[]byte{2, 7, 18, 65}, api.ErrCheck}, // the upper half first
		{[]byte{2, 7, 65, 19}, api.ErrCheck},
		{[]byte{2, 7, 64, 18}, api.ErrCheck},
		{[]byte{7, 2, 65, 18}, api.ErrCheck},
		{[]byte{2, 7, 65, 18, 1}, api.ErrCheck}, // (with 0 behind, it would be that of 2, 7, 65)
	} {
		if got, e := crc.Cut(x.b); e != x.want || len(got) != 0 {
			t.Errorf("Cut(%v) = %v, %d, want error %d", x.b, got, e, x.want)
		}
	}
}

// TestCutEnds: P1.2, of all pairs of bytes behind some others just one is their check sum.
func TestCutEnds(t *testing.T) {
	for _, b := range [][]byte{nil, {0}, {2, 7}, noise.Bytes(6)} {
		right := crc.Sum(b)
		for sum := range 65536 {
			want := api.ErrCheck
			if uint16(sum) == right {
				want = api.OK
			}
			if _, e := crc.Cut(append(bytes.Clone(b), byte(sum), byte(sum>>8))); e != want {
				t.Fatalf("Cut of %v and %d: error %d, want %d", b, sum, e, want)
			}
		}
	}
}

// TestCutMemory: P1.2 and R3, what is cut is in memory of its own, and b does not change.
func TestCutMemory(t *testing.T) {
	whole := append(crc.Put([]byte{1, 2, 3}), 9, 9)
	before := bytes.Clone(whole)
	out, e := crc.Cut(whole[:5])
	if e != api.OK {
		t.Fatal(e)
	}
	clear(out[:cap(out)])
	if !bytes.Equal(whole, before) {
		t.Error("the argument has changed:", whole)
	}
	out, _ = crc.Cut(whole[:5])
	clear(whole)
	if !bytes.Equal(out, []byte{1, 2, 3}) {
		t.Error("the result has changed:", out)
	}
}

// TestCutOfPut: P1.3, Cut of what Put returns is the original.
func TestCutOfPut(t *testing.T) {
	for _, b := range texts() {
		if got, e := crc.Cut(crc.Put(b)); e != api.OK || !bytes.Equal(got, b) {
			t.Errorf("%d bytes came back as %d, error %d", len(b), len(got), e)
		}
	}
}

// TestInvertedBits: P1.3, all ways to invert bits within 16 neighbouring ones (in the order of the line, the lowest bit of a byte first), at all places of some frames.
func TestInvertedBits(t *testing.T) {
	for _, b := range [][]byte{nil, {2, 7}, noise.Bytes(4)} {
		for burst := range noise.Bursts(crc.Put(b)) {
			if got, e := crc.Cut(burst); e != api.ErrCheck || len(got) != 0 {
				t.Fatalf("Cut(%v), which was %v: %v, error %d", burst, b, got, e)
			}
		}
	}
}
