package sum_test

import (
	"bytes"
	"hash/crc32"
	"math"
	"math/bits"
	"slices"
	"testing"
	"time"

	"saucier/noise"
	"saucier/sum"
)

// plainAdd is the chapter's definition, bit by bit.
func plainAdd(reg uint32, b byte) uint32 {
	reg ^= uint32(b)
	for range 8 {
		odd := reg%2 == 1
		reg /= 2
		if odd {
			reg ^= 0xEDB88320
		}
	}
	return reg
}

// plainSum is the chapter's definition of the check sum of bytes.
func plainSum(b []byte) uint32 {
	reg := uint32(4294967295)
	for _, c := range b {
		reg = plainAdd(reg, c)
	}
	return 4294967295 - reg
}

// plainThrough is what becomes of a register of which each bit becomes what the map says.
func plainThrough(m [32]uint32, reg uint32) uint32 {
	out := uint32(0)
	for i := range 32 {
		if reg>>i&1 == 1 {
			out ^= m[i]
		}
	}
	return out
}

// plainZeros is what becomes of a register by any number of zero bytes: the map of one byte, doubled as often as n has bits, each of its numbers for itself.
func plainZeros(reg uint32, n int) uint32 {
	var m [32]uint32
	for i := range 32 {
		m[i] = plainAdd(1<<i, 0)
	}
	for ; n > 0; n /= 2 {
		if n%2 == 1 {
			reg = plainThrough(m, reg)
		}
		old := m
		for i := range 32 {
			m[i] = plainThrough(old, old[i])
		}
	}
	return reg
}

// registers returns registers: small and great ones, each bit alone, each bit missing, and noise.
func registers() []uint32 {
	l := []uint32{0, 3, 255, 256, 65535, 65536, 3988292384, 305419896, 2863311530, 1431655765, math.MaxUint32}
	for i := range 32 {
		l = append(l, 1<<i, ^uint32(1<<i))
	}
	for i, w := range noise.Words(40) {
		l = append(l, uint32(w)<<16|uint32(i)*2654435761>>16)
	}
	return l
}

// texts returns byte strings of many lengths, plain ones and noise.
func texts() [][]byte {
	l := [][]byte{nil, {}, {1}, {128}, []byte("123456789"), []byte("abc")}
	for n := range 300 {
		l = append(l, make([]byte, n), bytes.Repeat([]byte{255}, n), noise.Bytes(n))
	}
	return append(l, noise.Bytes(8191), noise.Bytes(8192), noise.Bytes(65536), noise.Bytes(1<<20+1))
}

// inverted is b with those bits inverted, from a place on, that are 1 in a pattern of 32.
func inverted(b []byte, at int, pattern uint32) []byte {
	return noise.Inverted(noise.Inverted(b, at, uint16(pattern)), at+16, uint16(pattern>>16))
}

// xor is the exclusive or of byte strings of the same length.
func xor(l ...[]byte) []byte {
	out := make([]byte, len(l[0]))
	for _, b := range l {
		for i := range out {
			out[i] ^= b[i]
		}
	}
	return out
}

// TestAdd: P8.1, every byte with many registers, and many registers with some bytes.
func TestAdd(t *testing.T) {
	for _, reg := range registers() {
		for b := range 256 {
			if got, want := sum.Add(reg, byte(b)), plainAdd(reg, byte(b)); got != want {
				t.Fatalf("Add(%d, %d) = %d, want %d", reg, b, got, want)
			}
		}
	}
	for i := range uint32(200000) {
		reg := i * 2654435761
		for _, b := range []byte{0, 1, 128, 255} {
			if got, want := sum.Add(reg, b), plainAdd(reg, b); got != want {
				t.Fatalf("Add(%d, %d) = %d, want %d", reg, b, got, want)
			}
		}
	}
}

// TestAddKnown: P8.1, registers that are written out.
func TestAddKnown(t *testing.T) {
	for _, x := range []struct {
		reg  uint32
		b    byte
		want uint32
	}{
		{0, 0, 0},
		{0, 128, 3988292384},                      // its bit comes out last
		{128, 0, 3988292384},                      // and so does this one
		{128, 128, 0},                             // each takes the other away
		{256, 0, 1},                               // only shifted
		{2147483648, 0, 8388608},                  // only shifted
		{0, 1, 1996959894},                        // its bit comes out first
		{0, 255, 755167117},                       // all of them
		{4294967295, 255, 16777215},               // the lowest eight bits are taken away
		{4294967295, 0, 771559538},                // the check sum of a zero byte is the inverse
		{4294967295, 97, 3904355907 ^ 4294967295}, // and so is that of "a"
	} {
		if got := sum.Add(x.reg, x.b); got != x.want {
			t.Errorf("Add(%d, %d) = %d, want %d", x.reg, x.b, got, x.want)
		}
	}
}

// TestBytesKnown: P8.1, check sums that are written out: the chapter's, and others.
func TestBytesKnown(t *testing.T) {
	for _, x := range []struct {
		b    []byte
		want uint32
	}{
		{nil, 0},
		{[]byte{}, 0},
		{[]byte("123456789"), 3421780262},
		{[]byte("1234"), 2615402659},
		{[]byte("a"), 3904355907},
		{[]byte("abc"), 891568578},
		{[]byte{0}, 3523407757},
		{[]byte{0, 0, 0, 0}, 558161692},
		{[]byte{255, 255, 255, 255}, 4294967295},
		{[]byte{255, 255, 255, 255, 0}, 4294967295}, // the register is 0 before the last byte, and stays so
		{[]byte("The quick brown fox jumps over the lazy dog"), 1095738169},
	} {
		if got := sum.Bytes(x.b); got != x.want {
			t.Errorf("Bytes(%v) = %d, want %d", x.b, got, x.want)
		}
	}
}

// TestBytes: P8.1, byte strings of many lengths, against the chapter, against the library, and byte by byte.
func TestBytes(t *testing.T) {
	for _, b := range texts() {
		got := sum.Bytes(b)
		if want := plainSum(b); got != want || got != crc32.ChecksumIEEE(b) {
			t.Fatalf("Bytes of %d bytes = %d, want %d", len(b), got, want)
		}
		reg := uint32(math.MaxUint32)
		for _, c := range b {
			reg = sum.Add(reg, c)
		}
		if got != ^reg {
			t.Fatalf("Bytes of %d bytes = %d, and by Add %d", len(b), got, ^reg)
		}
	}
}

// TestBytesShort: P8.1 and P8.3, all byte strings of up to two bytes; no two of one length have the same check sum.
func TestBytesShort(t *testing.T) {
	seen := map[uint32]bool{}
	for x := range 65536 {
		b := []byte{byte(x >> 8), byte(x)}
		got := sum.Bytes(b)
		if got != plainSum(b) || seen[got] {
			t.Fatalf("Bytes(%v) = %d", b, got)
		}
		seen[got] = true
		if got := sum.Bytes(b[1:]); got != plainSum(b[1:]) {
			t.Fatalf("Bytes(%v) = %d", b[1:], got)
		}
	}
}

// TestWords: P8.1, registers that are written out, and lists of many lengths: their bytes, the upper half of each first.
func TestWords(t *testing.T) {
	for _, x := range []struct {
		l    []uint16
		want uint32
	}{
		{nil, 0},
		{[]uint16{}, 0},
		{[]uint16{12594, 13108}, 2615402659},
		{[]uint16{0, 0}, 558161692},
		{[]uint16{65535, 65535}, 4294967295},
		{[]uint16{1}, plainSum([]byte{0, 1})},
		{[]uint16{256}, plainSum([]byte{1, 0})},
	} {
		if got := sum.Words(x.l); got != x.want {
			t.Errorf("Words(%v) = %d, want %d", x.l, got, x.want)
		}
	}
	lengths := []int{4096, 65535, 65536, 1 << 19}
	for n := range 300 {
		lengths = append(lengths, n)
	}
	for _, n := range lengths {
		l := noise.Words(n)
		var b []byte
		for _, w := range l {
			b = append(b, byte(w/256), byte(w%256))
		}
		if got, want := sum.Words(l), plainSum(b); got != want {
			t.Fatalf("Words of %d registers = %d, want %d", n, got, want)
		}
	}
}

// TestZerosByAdd: P8.2, each number of zero bytes up to some thousands, one by one.
func TestZerosByAdd(t *testing.T) {
	for _, reg := range registers() {
		want := reg
		for n := range 2000 {
			if got := sum.Zeros(reg, n); got != want {
				t.Fatalf("Zeros(%d, %d) = %d, want %d", reg, n, got, want)
			}
			want = plainAdd(want, 0)
		}
	}
	reg, want := uint32(305419896), uint32(305419896)
	for n := range 200000 {
		if got := sum.Zeros(reg, n); n%37 == 0 && got != want {
			t.Fatalf("Zeros(%d, %d) = %d, want %d", reg, n, got, want)
		}
		want = plainAdd(want, 0)
	}
}

// TestZerosGreat: P8.2, numbers near each power of two up to the greatest one, and near those after which all comes round.
func TestZerosGreat(t *testing.T) {
	var l []int
	for i := range 63 {
		for near := -3; near < 4; near++ {
			l = append(l, 1<<i+near, math.MaxInt-1<<i-near, 1<<i*3/2+near, (1<<i-1)%(1<<31)*(1<<32-1)+near)
		}
	}
	for _, w := range noise.Words(100) {
		l = append(l, int(w)<<47|int(w)<<31|int(w)<<15|int(w)>>1)
	}
	for i, n := range append(l, math.MaxInt, math.MaxInt-1, math.MaxInt32, math.MaxUint32, math.MaxUint32-1, math.MaxUint32+1) {
		for _, reg := range []uint32{0, 1, 1 << 31, 1 << (i % 32), 3988292384, 305419896, math.MaxUint32, uint32(i) * 2654435761} {
			if got, want := sum.Zeros(reg, n), plainZeros(reg, n); got != want {
				t.Fatalf("Zeros(%d, %d) = %d, want %d", reg, n, got, want)
			}
		}
	}
}

// TestZerosNone: P8.2 and R1, no zero bytes, and a number below that, leave the register.
func TestZerosNone(t *testing.T) {
	for _, reg := range registers() {
		for _, n := range []int{0, -1, -2, -3, -8, -255, -65536, math.MinInt32, -math.MaxUint32, -math.MaxUint32 - 1, -math.MaxUint32 - 2, math.MinInt + 2, math.MinInt + 1, math.MinInt} {
			if got := sum.Zeros(reg, n); got != reg {
				t.Fatalf("Zeros(%d, %d) = %d", reg, n, got)
			}
		}
	}
}

// TestZerosParts: P8.2, zero bytes in two parts are as all of them at once; each number leaves 0, and nothing else, at 0.
func TestZerosParts(t *testing.T) {
	numbers := []int{0, 1, 2, 7, 255, 8192, 65537, math.MaxInt32, math.MaxUint32, 1 << 40, 1<<61 + 12345, math.MaxInt / 2}
	for _, reg := range registers() {
		for _, a := range numbers {
			for _, b := range numbers {
				if got, want := sum.Zeros(sum.Zeros(reg, a), b), sum.Zeros(reg, a+b); got != want {
					t.Fatalf("%d: by %d and %d zero bytes %d, by all of them %d", reg, a, b, got, want)
				}
			}
			if got := sum.Zeros(reg, a); (got == 0) != (reg == 0) {
				t.Fatalf("Zeros(%d, %d) = %d", reg, a, got)
			}
		}
	}
}

// quickest is the least time that a call takes out of many, since the machine may be busy meanwhile.
func quickest(call func()) time.Duration {
	least := time.Duration(math.MaxInt64)
	for range 1000 {
		start := time.Now()
		call()
		least = min(least, time.Since(start))
	}
	return least
}

// TestZerosSteps: P8.2, however many zero bytes there are, that takes less time than 2000 bytes one by one, of eight steps each.
func TestZerosSteps(t *testing.T) {
	b := noise.Bytes(2000)
	kept := uint32(1)
	slow := quickest(func() { kept ^= sum.Bytes(b) })
	for _, n := range []int{math.MaxUint32 - 1, math.MaxUint32*5 - 1, 1<<62 - 1, 1 << 62, math.MaxInt - 1, math.MaxInt} {
		if took := quickest(func() { kept ^= sum.Zeros(kept, n) }); took >= slow {
			t.Errorf("%d zero bytes take %v, and others %v (%d)", n, took, slow, kept)
		}
	}
}

// TestDiffer: P8.3, the check sums of byte strings that differ within 16 neighbouring bits differ; all ways, at all places of short ones.
func TestDiffer(t *testing.T) {
	for _, b := range [][]byte{{7}, {2, 7}, noise.Bytes(5)} {
		want := sum.Bytes(b)
		for burst := range noise.Bursts(b) {
			if sum.Bytes(burst) == want {
				t.Fatalf("%v and %v have the same check sum", b, burst)
			}
		}
	}
}

// TestDifferWide: P8.3, the same within 32 neighbouring bits (in the order in which a register takes them in, the lowest bit of a byte first): plain patterns and noise, at all places, also of a long byte string.
func TestDifferWide(t *testing.T) {
	var patterns []uint32
	for _, pattern := range registers() {
		patterns = append(patterns, pattern|1, pattern|1<<31|1, bits.Reverse32(pattern)|1)
	}
	for _, size := range []int{4, 5, 6, 9, 40} {
		b := noise.Bytes(size)
		want := sum.Bytes(b)
		for at := range 8*size - 31 {
			for _, pattern := range patterns {
				if sum.Bytes(inverted(b, at, pattern)) == want {
					t.Fatalf("%v, inverted from bit %d on by %d, has the same check sum", b, at, pattern)
				}
			}
		}
	}
	long := noise.Bytes(8192)
	want := sum.Bytes(long)
	for _, at := range []int{0, 1, 7, 30000, 8*8192 - 33, 8*8192 - 32} {
		for _, pattern := range patterns {
			if sum.Bytes(inverted(long, at, pattern)) == want {
				t.Fatalf("inverted from bit %d on by %d it has the same check sum", at, pattern)
			}
		}
	}
}

// TestDifferAll: P8.3, all 2^32 ways within 32 neighbouring bits, at all places of some byte strings: what a bit changes in the check sum is no exclusive or of what others do (and, by TestXor, several bits change the exclusive or of that).
func TestDifferAll(t *testing.T) {
	for _, size := range []int{1, 2, 3, 4, 5, 8, 33} {
		b := noise.Bytes(size)
		base := sum.Bytes(b)
		width := min(32, 8*size)
		for at := range 8*size - width + 1 {
			var led [32]uint32 // by its highest bit, what is left of a change
			for i := range width {
				change := base ^ sum.Bytes(inverted(b, at+i, 1))
				for change != 0 && led[bits.Len32(change)-1] != 0 {
					change ^= led[bits.Len32(change)-1]
				}
				if change == 0 {
					t.Fatalf("%d bytes, from bit %d on: bit %d changes what others do", size, at, i)
				}
				led[bits.Len32(change)-1] = change
			}
		}
	}
}

// TestXor: P8.3, the check sum of the exclusive or of three byte strings of one length, of all lengths up to some hundreds, and long ones.
func TestXor(t *testing.T) {
	lengths := []int{8192, 65536, 1 << 18}
	for n := range 400 {
		lengths = append(lengths, n)
	}
	for _, n := range lengths {
		many := noise.Bytes(3*n + 1)
		a, b, c := many[:n], many[n:2*n], many[2*n:3*n]
		zeros, full := make([]byte, n), bytes.Repeat([]byte{255}, n)
		for _, l := range [][3][]byte{{a, b, c}, {a, a, b}, {a, b, zeros}, {a, full, zeros}, {full, full, full}, {c, full, b}} {
			got := sum.Bytes(xor(l[:]...))
			if want := sum.Bytes(l[0]) ^ sum.Bytes(l[1]) ^ sum.Bytes(l[2]); got != want {
				t.Fatalf("%d bytes: %d, want %d", n, got, want)
			}
		}
	}
}

// TestConcatenation: P8.3, the check sum of two byte strings one behind the other, by those of both, and the length of the second one.
func TestConcatenation(t *testing.T) {
	lengths := []int{0, 1, 2, 3, 4, 5, 8, 31, 32, 33, 255, 256, 8192, 70000}
	for _, m := range lengths {
		for _, n := range lengths {
			a, b := noise.Bytes(m), noise.Bytes(n + 1)[1:]
			got := sum.Zeros(sum.Bytes(a), n) ^ sum.Bytes(b)
			if want := sum.Bytes(slices.Concat(a, b)); got != want {
				t.Fatalf("%d bytes and %d: %d, want %d", m, n, got, want)
			}
		}
	}
}

// TestMemory: R3 and R4, neither bytes nor registers, nor the spare capacity of both, change or count, and a second call returns the same.
func TestMemory(t *testing.T) {
	b := []byte("1234")
	for n, want := range []uint32{0, plainSum(b[:1]), plainSum(b[:2]), plainSum(b[:3]), 2615402659} {
		if x, y := sum.Bytes(b[:n]), sum.Bytes(b[:n]); x != want || y != want || string(b) != "1234" {
			t.Errorf("Bytes of %d: %d, %d, of %q", n, x, y, b)
		}
	}
	l := []uint16{12594, 13108, 9}
	for n, want := range []uint32{0, plainSum(b[:2]), 2615402659} {
		if x, y := sum.Words(l[:n]), sum.Words(l[:n]); x != want || y != want || !slices.Equal(l, []uint16{12594, 13108, 9}) {
			t.Errorf("Words of %d: %d, %d, of %v", n, x, y, l)
		}
	}
}
