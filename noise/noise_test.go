package noise_test

import (
	"bytes"
	"slices"
	"testing"

	"saucier/noise"
)

// TestLists: lists of each length, the same ones each time, of other lengths other ones; a negative length is 0.
func TestLists(t *testing.T) {
	for n := range 300 {
		words, b, bits := noise.Words(n), noise.Bytes(n), noise.Bits(n)
		if len(words) != n || len(b) != n || len(bits) != n {
			t.Fatalf("%d words, %d bytes, %d bits of %d", len(words), len(b), len(bits), n)
		}
		if !slices.Equal(words, noise.Words(n)) || !bytes.Equal(b, noise.Bytes(n)) || !slices.Equal(bits, noise.Bits(n)) {
			t.Errorf("the lists of %d differ", n)
		}
		if n > 0 && (slices.Equal(words, noise.Words(n + 1)[:n]) || n > 99 && (!slices.Contains(bits, true) || !slices.Contains(bits, false))) {
			t.Errorf("the lists of %d are no noise", n)
		}
	}
	if len(noise.Words(-1))+len(noise.Bytes(-1))+len(noise.Bits(-1)) != 0 {
		t.Error("lists of -1")
	}
}

// TestInverted: the bits of the pattern, from a place on, the lowest one of a byte first, and no others; the bytes themselves stay.
func TestInverted(t *testing.T) {
	b := []byte{0, 255, 0}
	for _, x := range []struct {
		at      int
		pattern uint16
		want    []byte
	}{
		{0, 0, []byte{0, 255, 0}},
		{0, 1, []byte{1, 255, 0}},
		{7, 1, []byte{128, 255, 0}},
		{7, 3, []byte{128, 254, 0}},
		{4, 65535, []byte{240, 0, 15}},
		{8, 257, []byte{0, 254, 1}},
		{23, 65535, []byte{0, 255, 128}},
		{24, 65535, []byte{0, 255, 0}},
		{-1, 1, []byte{1, 255, 0}},
	} {
		if got := noise.Inverted(b, x.at, x.pattern); !bytes.Equal(got, x.want) || !bytes.Equal(b, []byte{0, 255, 0}) {
			t.Errorf("Inverted from bit %d on by %d: %v, and %v", x.at, x.pattern, got, b)
		}
	}
}

// TestBursts: each way to invert some bits within 16 neighbouring ones, once.
func TestBursts(t *testing.T) {
	for n, want := range []int{0, 255, 65535, 9<<15 + 1<<15 - 1} {
		seen := map[string]bool{}
		b := noise.Bytes(n)
		for burst := range noise.Bursts(b) {
			first, last := 8*n, -1
			for i := range 8 * n {
				if (b[i/8]^burst[i/8])>>(i%8)&1 == 1 {
					first, last = min(first, i), i
				}
			}
			if first > last || last-first > 15 || seen[string(burst)] {
				t.Fatalf("%v, of %v: not within 16 bits, or not new", burst, b)
			}
			seen[string(burst)] = true
		}
		if len(seen) != want {
			t.Errorf("%d bursts of %d bytes", len(seen), n)
		}
	}
	for range noise.Bursts([]byte{1}) {
		break
	}
}
