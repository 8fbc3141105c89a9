package noise_test

import (
	"bytes"
	"slices"
	"testing"

	"saucier/noise"
)

// TestLists: lists of each length, the same ones each time, of other lengths other ones; a negative length is 0.
func TestLists(t *testing.T) {
	for n := range 300 {
		words, b, bits := noise.Words(n), noise.Bytes(n), noise.Bits(n)
		if len(words) != n || len(b) != n || len(bits) != n {
			t.Fatalf("%d words, %d bytes, %d bits of %d", len(words), len(b), len(bits), n)
		}
		if !slices.Equal(words, noise.Words(n)) || !bytes.Equal(b, noise.Bytes(n)) || !slices.Equal(bits, noise.Bits(n)) {
			t.Errorf("the lists of %d differ", n)
		}
		if n > 0 && (slices.Equal(words, noise.Words(n + 1)[:n]) || n > 99 && (!slices.Contains(bits, true) || !slices.Contains(bits, false))) {
			t.Errorf("the lists of %d are no noise", n)
		}
	}
	if len(noise.Words(-1))+len(noise.Bytes(-1))+len(noise.Bits(-1)) != 0 {
		t.Error("lists of -1")
	}
}
