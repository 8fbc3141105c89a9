package words_test

import (
	"bytes"
	"math"
	"slices"
	"testing"

	"saucier/noise"
	"saucier/words"
)

// bitOf is bit i of some bytes as the chapter counts them.
func bitOf(b []byte, i int) bool {
	return int(b[i/8])/[]int{1, 2, 4, 8, 16, 32, 64, 128}[i%8]%2 == 1
}

// plainBits is the chapter's Bits, condition by condition.
func plainBits(b []byte, n int) []bool {
	if n < 0 || n > 8*len(b) || n <= 8*(len(b)-1) {
		return nil
	}
	for i := n; i < 8*len(b); i++ {
		if bitOf(b, i) {
			return nil
		}
	}
	var l []bool
	for i := 0; i < n; i++ {
		l = append(l, bitOf(b, i))
	}
	return l
}

// plainPack is the chapter's PackBits.
func plainPack(l []bool) []byte {
	var b []byte
	for i, on := range l {
		if i%8 == 0 {
			b = append(b, 0)
		}
		if on {
			b[i/8] += []byte{1, 2, 4, 8, 16, 32, 64, 128}[i%8]
		}
	}
	return b
}

// plainRegs is the bytes of registers, by division.
func plainRegs(l []uint16) []byte {
	var b []byte
	for _, w := range l {
		b = append(b, byte(w/256), byte(w%256))
	}
	return b
}

// checkBits holds Bits against the chapter, and what it returns against PackBits.
func checkBits(t *testing.T, b []byte, n int) {
	t.Helper()
	got, want := words.Bits(b, n), plainBits(b, n)
	if !slices.Equal(got, want) {
		t.Fatalf("Bits(%v, %d) = %v, want %v", b, n, got, want)
	}
	if len(got) > 0 && !bytes.Equal(words.PackBits(got), b) {
		t.Fatalf("Bits(%v, %d) = %v, which is packed as %v", b, n, got, words.PackBits(got))
	}
}

// wrongCounts are counts that no list of bits has; some are right if they wrap round.
var wrongCounts = []int{-1, -2, -7, -8, -9, -16, -65536, math.MinInt, math.MinInt + 1, math.MinInt + 8, math.MinInt32,
	math.MaxInt, math.MaxInt - 1, math.MaxInt - 6, math.MaxInt - 7, math.MaxInt - 8, math.MaxInt32, 1 << 30, 1<<30 + 8}

// TestKnownBits: P6.1, bits whose bytes are written out, both ways: the chapter's, and others.
func TestKnownBits(t *testing.T) {
	for _, x := range []struct {
		bits []int
		b    []byte
	}{
		{nil, nil},
		{[]int{0}, []byte{0}},
		{[]int{1}, []byte{1}},
		{[]int{0, 1}, []byte{2}},
		{[]int{1, 0, 1, 1, 0, 0, 0}, []byte{13}},
		{[]int{0, 0, 0, 0, 0, 0, 0, 1}, []byte{128}},
		{[]int{1, 1, 1, 1, 1, 1, 1, 1}, []byte{255}},
		{[]int{1, 0, 1, 1, 0, 0, 0, 0, 1}, []byte{13, 1}},
		{[]int{0, 0, 0, 0, 0, 0, 0, 0, 0}, []byte{0, 0}},
		{[]int{0, 1, 1, 0, 0, 0, 0, 1, 0, 0, 1}, []byte{134, 4}},
		{[]int{0, 0, 1, 0, 1, 1, 0, 0, 1, 1, 1, 1, 0, 0, 0, 0, 0, 1}, []byte{52, 15, 2}},
	} {
		l := make([]bool, len(x.bits))
		for i, bit := range x.bits {
			l[i] = bit == 1
		}
		if b := words.PackBits(l); !bytes.Equal(b, x.b) {
			t.Errorf("PackBits(%v) = %v, want %v", l, b, x.b)
		}
		if got := words.Bits(x.b, len(l)); !slices.Equal(got, l) {
			t.Errorf("Bits(%v, %d) = %v", x.b, len(l), got)
		}
	}
}

// TestPackBits: P6.1 and P6.4, lists of all lengths up to some hundreds, and long ones: as few bytes as needed, and the same list again.
func TestPackBits(t *testing.T) {
	lengths := []int{1967, 1968, 1969, 2000, 65535, 65536, 65537, 1 << 20}
	for n := range 300 {
		lengths = append(lengths, n)
	}
	for _, n := range lengths {
		on := make([]bool, n)
		for i := range on {
			on[i] = true
		}
		for i, l := range [][]bool{noise.Bits(n), make([]bool, n), on} {
			b := words.PackBits(l)
			if !bytes.Equal(b, plainPack(l)) {
				t.Fatalf("%d bits, list %d: %d bytes", n, i, len(b))
			}
			if !slices.Equal(words.Bits(b, n), l) {
				t.Fatalf("%d bits, list %d: not the same again", n, i)
			}
		}
	}
}

// TestPackShort: P6.1 and P6.4, all lists of up to 12 bits: no two of one length are packed alike, and each comes back.
func TestPackShort(t *testing.T) {
	for n := range 13 {
		seen := map[string]bool{}
		for x := range 1 << n {
			l := make([]bool, n)
			for i := range l {
				l[i] = x>>i&1 == 1
			}
			b := words.PackBits(l)
			if !bytes.Equal(b, plainPack(l)) || seen[string(b)] || !slices.Equal(words.Bits(b, n), l) {
				t.Fatalf("PackBits(%v) = %v", l, b)
			}
			seen[string(b)] = true
		}
	}
}

// TestBitsOfShort: P6.1 and P6.4, all bytes up to two, with all counts up to some too great.
func TestBitsOfShort(t *testing.T) {
	for n := -20; n < 40; n++ {
		checkBits(t, nil, n)
		checkBits(t, []byte{}, n)
		for c := range 256 {
			checkBits(t, []byte{byte(c)}, n)
			checkBits(t, []byte{1, 2, byte(c)}, n)
		}
	}
	for n := -1; n < 20; n++ {
		for c := range 65536 {
			checkBits(t, []byte{byte(c >> 8), byte(c)}, n)
		}
	}
}

// TestBitsCounts: P6.1, each count for bytes of many lengths: those that need just as many bytes are taken, and no others.
func TestBitsCounts(t *testing.T) {
	for size := range 40 {
		for n := -3; n < 8*size+20; n++ {
			checkBits(t, noise.Bytes(size), n)
			checkBits(t, make([]byte, size), n)
			checkBits(t, bytes.Repeat([]byte{255}, size), n)
			want := 0
			if n > 8*size-8 && n <= 8*size {
				want = max(0, n)
			}
			if got := words.Bits(make([]byte, size), n); len(got) != want {
				t.Fatalf("%d bits of %d bytes: %v", n, size, got)
			}
		}
	}
}

// TestBitsUnused: P6.1, an unused bit that is not 0, alone, at each place behind the last bit.
func TestBitsUnused(t *testing.T) {
	for n := 1; n < 60; n++ {
		b := words.PackBits(noise.Bits(n))
		for i := n; i < 8*len(b); i++ {
			wrong := noise.Inverted(b, i, 1)
			if got := words.Bits(wrong, n); len(got) != 0 {
				t.Fatalf("Bits(%v, %d) = %v", wrong, n, got)
			}
		}
	}
	for _, n := range []int{9, 10, 15} {
		if got := words.Bits([]byte{13, 128}, n); len(got) != 0 {
			t.Errorf("Bits(13 128, %d) = %v", n, got)
		}
	}
	if got := words.Bits([]byte{13, 3}, 9); len(got) != 0 {
		t.Error(got)
	}
}

// TestBitsWrongCounts: P6.1 and R1, counts below 0, and counts far beyond what there is.
func TestBitsWrongCounts(t *testing.T) {
	for _, n := range wrongCounts {
		for _, b := range [][]byte{nil, {}, {0}, {1}, {255}, {0, 0}, make([]byte, 8), make([]byte, 1000)} {
			if got := words.Bits(b, n); len(got) != 0 {
				t.Fatalf("Bits of %d bytes, %d: %d bits", len(b), n, len(got))
			}
		}
	}
}

// TestBitsHidden: P6.1, the spare capacity of the bytes is none of them.
func TestBitsHidden(t *testing.T) {
	whole := []byte{13, 1, 0, 0}
	for n := -1; n < 40; n++ {
		checkBits(t, whole[:0], n)
		checkBits(t, whole[:1], n)
		checkBits(t, whole[:2], n)
	}
}

// TestKnownRegs: P6.2, registers whose bytes are written out, both ways: the chapter's, and others.
func TestKnownRegs(t *testing.T) {
	for _, x := range []struct {
		l []uint16
		b []byte
	}{
		{nil, nil},
		{[]uint16{0}, []byte{0, 0}},
		{[]uint16{1, 258}, []byte{0, 1, 1, 2}},
		{[]uint16{65534, 7}, []byte{255, 254, 0, 7}},
		{[]uint16{256, 255, 32768}, []byte{1, 0, 0, 255, 128, 0}},
		{[]uint16{4660, 22136, 39612, 57072}, []byte{18, 52, 86, 120, 154, 188, 222, 240}},
	} {
		if b := words.PackRegs(x.l); !bytes.Equal(b, x.b) {
			t.Errorf("PackRegs(%v) = %v", x.l, b)
		}
		if l, ok := words.Regs(x.b); !ok || !slices.Equal(l, x.l) {
			t.Errorf("Regs(%v) = %v, %t", x.b, l, ok)
		}
	}
	if l, ok := words.Regs([]byte{}); !ok || len(l) != 0 {
		t.Error(l, ok)
	}
}

// TestRegsOfPack: P6.2 and P6.4, each register, alone and between others, comes back from its bytes.
func TestRegsOfPack(t *testing.T) {
	for w := range 65536 {
		for _, l := range [][]uint16{{uint16(w)}, {258, uint16(w), 772}} {
			b := words.PackRegs(l)
			got, ok := words.Regs(b)
			if !bytes.Equal(b, plainRegs(l)) || !ok || !slices.Equal(got, l) {
				t.Fatalf("PackRegs(%v) = %v, and Regs of that %v, %t", l, b, got, ok)
			}
		}
	}
}

// TestRegsLengths: P6.2 and P6.4, bytes of each length, and long ones: registers that are packed as these again, or none if the number is odd.
func TestRegsLengths(t *testing.T) {
	lengths := []int{65535, 65536, 65537, 131071, 131072, 131073, 1<<20 - 1, 1 << 20}
	for n := range 600 {
		lengths = append(lengths, n)
	}
	for _, n := range lengths {
		b := noise.Bytes(n)
		l, ok := words.Regs(b)
		if n%2 == 1 {
			if ok || len(l) != 0 {
				t.Fatalf("of %d bytes: %d registers, %t", n, len(l), ok)
			}
			continue
		}
		if !ok || len(l) != n/2 || !bytes.Equal(plainRegs(l), b) || !bytes.Equal(words.PackRegs(l), b) {
			t.Fatalf("of %d bytes: %d registers, %t", n, len(l), ok)
		}
	}
	if l, ok := words.Regs([]byte{1, 2, 3, 4}[:3]); ok || len(l) != 0 {
		t.Error("the spare capacity has been read:", l, ok)
	}
}

// TestWide: P6.3, numbers of two registers, written out.
func TestWide(t *testing.T) {
	for _, x := range []struct {
		high, low uint16
		want      uint32
	}{
		{0, 0, 0},
		{1, 2, 65538},
		{2, 1, 131073},
		{0, 65535, 65535},
		{1, 0, 65536},
		{65535, 0, 4294901760},
		{65535, 1, 4294901761},
		{32768, 0, 2147483648},
		{0, 32768, 32768},
		{4660, 22136, 305419896},
		{65535, 65535, 4294967295},
	} {
		if got := words.Wide(x.high, x.low); got != x.want {
			t.Errorf("Wide(%d, %d) = %d", x.high, x.low, got)
		}
		if high, low := words.Parts(x.want); high != x.high || low != x.low {
			t.Errorf("Parts(%d) = %d, %d", x.want, high, low)
		}
	}
}

// TestWideOfParts: P6.3 and P6.4, each register as each half, and numbers all over, both ways; as bytes the number is the two registers.
func TestWideOfParts(t *testing.T) {
	check := func(high, low uint16) {
		x := words.Wide(high, low)
		if uint64(x) != uint64(high)*65536+uint64(low) {
			t.Fatalf("Wide(%d, %d) = %d", high, low, x)
		}
		if h, l := words.Parts(x); h != high || l != low {
			t.Fatalf("Parts(%d) = %d, %d", x, h, l)
		}
	}
	for w := range 65536 {
		for _, other := range []uint16{0, 1, 255, 256, 32767, 32768, 65535} {
			check(uint16(w), other)
			check(other, uint16(w))
		}
		x := uint32(w) * 2654435761
		if high, low := words.Parts(x); words.Wide(high, low) != x || uint32(high) != x/65536 || uint32(low) != x%65536 {
			t.Fatalf("Parts(%d) = %d, %d", x, high, low)
		}
	}
}

// TestSigned: P6.3 and P6.4, each signed register has the value of the chapter, and that value has the register.
func TestSigned(t *testing.T) {
	for w := range 65536 {
		want := w
		if w >= 32768 {
			want = w - 65536
		}
		if got := words.Signed(uint16(w)); got != want {
			t.Fatalf("Signed(%d) = %d", w, got)
		}
		if got, ok := words.Word(want); !ok || int(got) != w {
			t.Fatalf("Word(%d) = %d, %t", want, got, ok)
		}
	}
	for _, x := range [][2]int{{0, 0}, {1, 1}, {32767, 32767}, {32768, -32768}, {65534, -2}, {65535, -1}} {
		if got := words.Signed(uint16(x[0])); got != x[1] {
			t.Errorf("Signed(%d) = %d", x[0], got)
		}
	}
}

// TestWord: P6.3 and P6.4, values from far below to far above those of a register, and such as would be right only by wrapping round.
func TestWord(t *testing.T) {
	check := func(x int) {
		w, ok := words.Word(x)
		if in := x >= -32768 && x <= 32767; ok != in || !in && w != 0 || in && words.Signed(w) != x {
			t.Fatalf("Word(%d) = %d, %t", x, w, ok)
		}
	}
	for x := -200000; x < 200000; x++ {
		check(x)
	}
	for shift := range 64 {
		for _, near := range []int{-32769, -32768, -2, -1, 0, 1, 2, 32767, 32768} {
			check(1<<shift + near)
			check(-1<<shift + near)
		}
	}
	for _, x := range []int{40000, 65535, 65536, -65536, math.MaxInt, math.MinInt, math.MaxInt - 32767, math.MinInt + 32767, math.MaxInt32, math.MinInt32} {
		if w, ok := words.Word(x); ok || w != 0 {
			t.Errorf("Word(%d) = %d, %t", x, w, ok)
		}
	}
}

// TestBitsMemory: R3, neither bits nor their bytes, nor the spare capacity of both, change, and no result shares memory with another.
func TestBitsMemory(t *testing.T) {
	b := []byte{13, 1, 9, 9}
	one, two := words.Bits(b[:2], 9), words.Bits(b[:2], 9)
	clear(one[:cap(one)])
	if !bytes.Equal(b, []byte{13, 1, 9, 9}) {
		t.Error("the argument has changed:", b)
	}
	clear(b)
	if !slices.Equal(two, []bool{true, false, true, true, false, false, false, false, true}) {
		t.Error("the result has changed:", two)
	}
	l := append(two, true, true, true)
	old := slices.Clone(l)
	x, y := words.PackBits(l[:9]), words.PackBits(l[:9])
	clear(x[:cap(x)])
	if !slices.Equal(l, old) {
		t.Error("the argument has changed:", l)
	}
	clear(l)
	if !bytes.Equal(y, []byte{13, 1}) {
		t.Error("the result has changed:", y)
	}
}

// TestRegsMemory: R3, the same of registers.
func TestRegsMemory(t *testing.T) {
	b := []byte{0, 1, 1, 2, 9, 9}
	one, _ := words.Regs(b[:4])
	two, _ := words.Regs(b[:4])
	clear(one[:cap(one)])
	if !bytes.Equal(b, []byte{0, 1, 1, 2, 9, 9}) {
		t.Error("the argument has changed:", b)
	}
	clear(b)
	if !slices.Equal(two, []uint16{1, 258}) {
		t.Error("the result has changed:", two)
	}
	l := []uint16{1, 258, 9, 9}
	x, y := words.PackRegs(l[:2]), words.PackRegs(l[:2])
	clear(x[:cap(x)])
	if !slices.Equal(l, []uint16{1, 258, 9, 9}) {
		t.Error("the argument has changed:", l)
	}
	clear(l)
	if !bytes.Equal(y, []byte{0, 1, 1, 2}) {
		t.Error("the result has changed:", y)
	}
}
