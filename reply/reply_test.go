package reply_test

import (
	"bytes"
	"slices"
	"testing"

	"saucier/api"
	"saucier/ask"
	"saucier/noise"
	"saucier/reply"
)

// rights returns right replies of all kinds, with the least and the greatest counts, and others.
func rights() []api.Reply {
	var l []api.Reply
	for f := range 128 {
		for except := uint8(1); except <= 4; except++ {
			l = append(l, api.Reply{Func: uint8(f), Except: except})
		}
	}
	for _, f := range []uint8{1, 2} {
		for _, n := range []int{8, 16, 24, 248, 256, 264, 1992, 2000} {
			l = append(l, api.Reply{Func: f, Bits: noise.Bits(n)}, api.Reply{Func: f, Bits: make([]bool, n)})
		}
	}
	for _, f := range []uint8{3, 4, 23} {
		for _, n := range []int{1, 2, 3, 4, 63, 64, 65, 124, 125} {
			l = append(l, api.Reply{Func: f, Words: noise.Words(n)}, api.Reply{Func: f, Words: make([]uint16, n)})
		}
	}
	for _, at := range []uint16{0, 1, 255, 256, 258, 65280, 65535} {
		l = append(l, api.Reply{Func: 5, At: at, Bits: []bool{false}}, api.Reply{Func: 5, At: at, Bits: []bool{true}})
		for _, w := range []uint16{0, 1, 255, 256, 258, 65280, 65535} {
			l = append(l, api.Reply{Func: 6, At: at, Words: []uint16{w}})
		}
		for _, many := range []uint16{1, 2, 122, 123, 124, 255, 256, 257, 1967, 1968} {
			l = append(l, api.Reply{Func: 15, At: at, Many: many})
			if many <= 123 {
				l = append(l, api.Reply{Func: 16, At: at, Many: many})
			}
		}
	}
	return l
}

// plainRight is the chapter's table, a line each.
func plainRight(r api.Reply) bool {
	f, bits, words := r.Func, len(r.Bits), len(r.Words)
	if r.Except != 0 {
		return f <= 127 && r.Except <= 4 && bits == 0 && words == 0 && r.At == 0 && r.Many == 0
	}
	switch f {
	case 1, 2:
		return 8 <= bits && bits <= 2000 && bits%8 == 0 && words == 0 && r.At == 0 && r.Many == 0
	case 3, 4, 23:
		return 1 <= words && words <= 125 && bits == 0 && r.At == 0 && r.Many == 0
	case 5:
		return bits == 1 && words == 0 && r.Many == 0
	case 6:
		return words == 1 && bits == 0 && r.Many == 0
	case 15:
		return 1 <= r.Many && r.Many <= 1968 && bits == 0 && words == 0
	case 16:
		return 1 <= r.Many && r.Many <= 123 && bits == 0 && words == 0
	}
	return false
}

// plainBytes is the bytes that the chapter's table gives a right reply.
func plainBytes(r api.Reply) []byte {
	two := func(n uint16) []byte { return []byte{byte(n / 256), byte(n % 256)} }
	if r.Except != 0 {
		return []byte{r.Func + 128, r.Except}
	}
	switch r.Func {
	case 1, 2:
		b := []byte{r.Func, byte(len(r.Bits) / 8)}
		for i := 0; i < len(r.Bits); i += 8 {
			c := byte(0)
			for j, n := range []byte{1, 2, 4, 8, 16, 32, 64, 128} {
				if r.Bits[i+j] {
					c += n
				}
			}
			b = append(b, c)
		}
		return b
	case 3, 4, 23:
		b := []byte{r.Func, byte(2 * len(r.Words))}
		for _, w := range r.Words {
			b = append(b, two(w)...)
		}
		return b
	case 5:
		if r.Bits[0] {
			return append(append([]byte{5}, two(r.At)...), 255, 0)
		}
		return append(append([]byte{5}, two(r.At)...), 0, 0)
	case 6:
		return append(append([]byte{6}, two(r.At)...), two(r.Words[0])...)
	}
	return append(append([]byte{r.Func}, two(r.At)...), two(r.Many)...)
}

// plainReply reports whether bytes are those of a right reply, by the chapter's table.
func plainReply(b []byte) bool {
	if len(b) < 2 {
		return false
	}
	if b[0] >= 128 {
		return len(b) == 2 && 1 <= b[1] && b[1] <= 4
	}
	follow := int(b[1]) == len(b)-2
	switch b[0] {
	case 1, 2:
		return follow && 1 <= b[1] && b[1] <= 250
	case 3, 4, 23:
		return follow && 2 <= b[1] && b[1] <= 250 && b[1]%2 == 0
	}
	if len(b) != 5 {
		return false
	}
	n := int(b[3])*256 + int(b[4])
	switch b[0] {
	case 5:
		return n == 0 || n == 65280
	case 6:
		return true
	case 15:
		return 1 <= n && n <= 1968
	case 16:
		return 1 <= n && n <= 123
	}
	return false
}

// TestRight: P3.1, all functions, with each combination of counts at and about the limits, and of fields that should be zero.
func TestRight(t *testing.T) {
	kinds, words, bits := map[string]bool{}, make([]uint16, 126), make([]bool, 2008)
	for f := range 256 {
		for _, except := range []uint8{0, 1, 2, 3, 4, 5, 128, 255} {
			for _, n := range []int{0, 1, 2, 124, 125, 126} {
				for _, m := range []int{0, 1, 2, 7, 8, 9, 12, 16, 1992, 1999, 2000, 2001, 2008} {
					for _, at := range []uint16{0, 1, 65535} {
						for _, many := range []uint16{0, 1, 123, 124, 1968, 1969, 65535} {
							r := api.Reply{Func: uint8(f), Except: except, Bits: bits[:m], Words: words[:n], At: at, Many: many}
							want := plainRight(r)
							if want {
								kinds[string(plainBytes(r)[:1])] = true
							}
							if got := reply.Right(r); got != want {
								t.Fatalf("Right of function %d, exception %d, %d bits, %d words, at %d, many %d: %v", f, except, m, n, at, many, got)
							}
						}
					}
				}
			}
		}
	}
	if len(kinds) != 128+9 {
		t.Errorf("right replies of %d kinds were tried", len(kinds))
	}
	for i, r := range rights() {
		if !reply.Right(r) {
			t.Errorf("reply %d of function %d is not right", i, r.Func)
		}
	}
}

// TestRightCounts: P3.1, each number of bits, words, and elements that were written.
func TestRightCounts(t *testing.T) {
	for f := range 256 {
		for n := range 2100 {
			for _, r := range []api.Reply{
				{Func: uint8(f), Bits: make([]bool, n)},
				{Func: uint8(f), Words: make([]uint16, n)},
				{Func: uint8(f), At: 7, Many: uint16(n)},
			} {
				if got := reply.Right(r); got != plainRight(r) {
					t.Fatalf("Right of function %d, %d bits, %d words, many %d: %v", f, len(r.Bits), len(r.Words), r.Many, got)
				}
			}
		}
	}
}

// TestRightWrong: P3.1, the zero reply is none; lists that would have a right length only by wrapping round are too long.
func TestRightWrong(t *testing.T) {
	for _, r := range []api.Reply{
		{},
		{Func: 1},
		{Func: 1, Bits: make([]bool, 2048+8)},
		{Func: 2, Bits: make([]bool, 65536+8)},
		{Func: 3, Words: make([]uint16, 128+1)},
		{Func: 4, Words: make([]uint16, 65536+1)},
		{Func: 5, Bits: make([]bool, 65536+1)},
		{Func: 6, Words: make([]uint16, 65536+1)},
		{Func: 15, Many: 1, Words: make([]uint16, 65536)},
		{Func: 16, Many: 1, Bits: make([]bool, 65536)},
		{Func: 131, Words: []uint16{1}},
		{Func: 131, Except: 2},
	} {
		if reply.Right(r) {
			t.Errorf("function %d, exception %d, %d bits, %d words: right", r.Func, r.Except, len(r.Bits), len(r.Words))
		}
	}
}

// TestSame: P3.1, a difference in any one field shows; nil is the same as empty (R6); wrong replies are compared, too.
func TestSame(t *testing.T) {
	whole := func() api.Reply {
		return api.Reply{Func: 23, Except: 1, Bits: []bool{true, false}, Words: []uint16{4, 5}, At: 2, Many: 3}
	}
	if !reply.Same(whole(), whole()) || !reply.Same(api.Reply{}, api.Reply{}) {
		t.Error("not the same as itself")
	}
	if !reply.Same(api.Reply{Words: []uint16{}}, api.Reply{Bits: []bool{}}) {
		t.Error("empty and nil differ")
	}
	for i, change := range []func(*api.Reply){
		func(r *api.Reply) { r.Func = 151 },
		func(r *api.Reply) { r.Except = 0 },
		func(r *api.Reply) { r.At = 258 },
		func(r *api.Reply) { r.Many = 259 },
		func(r *api.Reply) { r.At, r.Many = r.Many, r.At },
		func(r *api.Reply) { r.Words[0] = 260 },
		func(r *api.Reply) { r.Words[1] = 4 },
		func(r *api.Reply) { r.Words = r.Words[:1] },
		func(r *api.Reply) { r.Words = nil },
		func(r *api.Reply) { r.Words = append(r.Words, 0) },
		func(r *api.Reply) { r.Bits[0] = false },
		func(r *api.Reply) { r.Bits[1] = true },
		func(r *api.Reply) { r.Bits = r.Bits[:1] },
		func(r *api.Reply) { r.Bits = nil },
		func(r *api.Reply) { r.Bits = append(r.Bits, false) },
	} {
		r := whole()
		change(&r)
		if reply.Same(r, whole()) || reply.Same(whole(), r) {
			t.Errorf("change %d does not show", i)
		}
	}
}

// TestWrong: P3.1, the lower seven bits of a function, and the exception as it stands.
func TestWrong(t *testing.T) {
	for f := range 256 {
		for except := range 256 {
			r := reply.Wrong(uint8(f), uint8(except))
			if !reply.Same(r, api.Reply{Func: uint8(f % 128), Except: uint8(except)}) {
				t.Fatalf("Wrong(%d, %d) = %v", f, except, r)
			}
			if right := 1 <= except && except <= 4; reply.Right(r) != right {
				t.Fatalf("Wrong(%d, %d) is right: %v", f, except, !right)
			}
		}
	}
}

// TestExamples: P3.2, the chapter's examples, and one of each function, both ways.
func TestExamples(t *testing.T) {
	for _, x := range []struct {
		r api.Reply
		b []byte
	}{
		{api.Reply{Func: 3, Words: []uint16{1, 258}}, []byte{3, 4, 0, 1, 1, 2}},
		{api.Reply{Func: 3, Except: 2}, []byte{131, 2}},
		{api.Reply{Func: 15, At: 19, Many: 10}, []byte{15, 0, 19, 0, 10}},
		{api.Reply{Func: 0, Except: 1}, []byte{128, 1}},
		{api.Reply{Func: 127, Except: 4}, []byte{255, 4}},
		{api.Reply{Func: 1, Bits: []bool{true, false, true, true, false, false, false, false}}, []byte{1, 1, 13}},
		{api.Reply{Func: 2, Bits: []bool{15: true}}, []byte{2, 2, 0, 128}},
		{api.Reply{Func: 4, Words: []uint16{65280}}, []byte{4, 2, 255, 0}},
		{api.Reply{Func: 23, Words: []uint16{772}}, []byte{23, 2, 3, 4}},
		{api.Reply{Func: 5, At: 172, Bits: []bool{true}}, []byte{5, 0, 172, 255, 0}},
		{api.Reply{Func: 5, At: 258, Bits: []bool{false}}, []byte{5, 1, 2, 0, 0}},
		{api.Reply{Func: 6, At: 1, Words: []uint16{772}}, []byte{6, 0, 1, 3, 4}},
		{api.Reply{Func: 15, At: 65535, Many: 1968}, []byte{15, 255, 255, 7, 176}},
		{api.Reply{Func: 16, At: 258, Many: 123}, []byte{16, 1, 2, 0, 123}},
	} {
		if b, e := reply.Bytes(x.r); e != api.OK || !bytes.Equal(b, x.b) {
			t.Errorf("Bytes(%v) = %v, %d", x.r, b, e)
		}
		if r, e := reply.Parse(x.b); e != api.OK || !reply.Same(r, x.r) {
			t.Errorf("Parse(%v) = %v, %d", x.b, r, e)
		}
	}
}

// TestBytes: P3.2, the bytes of the chapter's table.
func TestBytes(t *testing.T) {
	for _, r := range rights() {
		if b, e := reply.Bytes(r); e != api.OK || !bytes.Equal(b, plainBytes(r)) {
			t.Errorf("Bytes(%v) = %v, %d", r, b, e)
		}
	}
}

// TestBytesErrors: P3.2, of a reply that is not right there is an error, and nothing else (R2).
func TestBytesErrors(t *testing.T) {
	for _, r := range []api.Reply{
		{},
		{Func: 7},
		{Func: 128, Except: 1},
		{Func: 131, Except: 2},
		{Func: 131, Words: []uint16{1}},
		{Func: 3, Except: 5},
		{Func: 3, Except: 255},
		{Func: 3, Except: 2, Words: []uint16{1}},
		{Func: 1, Except: 2, Bits: make([]bool, 8)},
		{Func: 16, Except: 2, Many: 1},
		{Func: 16, Except: 2, At: 1},
		{Func: 1},
		{Func: 1, Bits: make([]bool, 7)},
		{Func: 2, Bits: make([]bool, 12)},
		{Func: 2, Bits: make([]bool, 2008)},
		{Func: 2, Bits: make([]bool, 8), Many: 8},
		{Func: 2, Words: []uint16{1}},
		{Func: 3},
		{Func: 4, Words: make([]uint16, 126)},
		{Func: 23, Words: []uint16{1}, At: 1},
		{Func: 3, Words: []uint16{1}, Bits: []bool{true}},
		{Func: 5},
		{Func: 5, Bits: []bool{true, true}},
		{Func: 5, Bits: []bool{true}, Many: 1},
		{Func: 6},
		{Func: 6, Words: []uint16{1, 2}},
		{Func: 6, Words: []uint16{1}, Many: 1},
		{Func: 15},
		{Func: 15, Many: 1969},
		{Func: 15, Many: 1, Bits: []bool{true}},
		{Func: 16},
		{Func: 16, Many: 124},
		{Func: 16, Many: 1, Words: []uint16{1}},
	} {
		if b, e := reply.Bytes(r); e != api.ErrReply || len(b) != 0 {
			t.Errorf("Bytes(%v) = %v, %d", r, b, e)
		}
	}
}

// check holds Parse against the chapter for some bytes.
func check(t *testing.T, b []byte) {
	t.Helper()
	before := bytes.Clone(b)
	r, e := reply.Parse(b)
	if !bytes.Equal(b, before) {
		t.Fatalf("%v has changed to %v", before, b)
	}
	if !plainReply(b) {
		if e != api.ErrReply || !reply.Same(r, api.Reply{}) {
			t.Fatalf("Parse(%v) = %v, %d", b, r, e)
		}
		return
	}
	if e != api.OK || !plainRight(r) || !bytes.Equal(plainBytes(r), b) {
		t.Fatalf("Parse(%v) = %v, %d", b, r, e)
	}
}

// TestParseErrors: P3.2, bytes that are no reply.
func TestParseErrors(t *testing.T) {
	for _, b := range [][]byte{
		nil, {}, {0}, {3}, {131}, {3, 0}, {1, 0}, {7, 1}, {0, 1}, {127, 1},
		{131, 0}, {131, 5}, {131, 255}, {131, 2, 0}, {131, 2, 2},
		{1, 1}, {1, 2, 0}, {1, 1, 0, 0}, {2, 0, 0},
		{3, 1, 0}, {3, 3, 0, 1, 2}, {3, 2, 0}, {3, 2, 0, 1, 2}, {4, 4, 0, 1}, {23, 0, 0, 1},
		{5, 0, 172, 255, 1}, {5, 0, 172, 0, 255}, {5, 0, 172, 1, 0}, {5, 0, 172, 255}, {5, 0, 172, 255, 0, 0},
		{6, 0, 1, 3}, {6, 0, 1, 3, 4, 5},
		{15, 0, 19, 0, 0}, {15, 0, 19, 7, 177}, {15, 0, 19, 0}, {15, 0, 19, 0, 10, 2, 205, 1},
		{16, 0, 1, 0, 0}, {16, 0, 1, 0, 124}, {16, 0, 1, 1, 1}, {16, 0, 1, 0, 1, 2, 0, 1},
	} {
		if r, e := reply.Parse(b); e != api.ErrReply || !reply.Same(r, api.Reply{}) {
			t.Errorf("Parse(%v) = %v, %d", b, r, e)
		}
	}
}

// TestShortBytes: P3.2, all one and two bytes, and behind each two of them zeros.
func TestShortBytes(t *testing.T) {
	check(t, nil)
	for c := range 256 {
		check(t, []byte{byte(c)})
		for d := range 256 {
			for n := range 6 {
				check(t, append([]byte{byte(c), byte(d)}, make([]byte, n)...))
			}
		}
	}
}

// TestAllNumbers: P3.2, each number of two bytes that can stand behind an address.
func TestAllNumbers(t *testing.T) {
	for _, f := range []byte{0, 1, 2, 3, 4, 5, 6, 7, 15, 16, 17, 23, 133, 144} {
		for n := range 65536 {
			check(t, []byte{f, 1, 2, byte(n >> 8), byte(n)})
		}
	}
}

// TestAllCounts: P3.2, lists with each number of bytes, which is told, or told wrongly, also such as is the same in its lower eight bits.
func TestAllCounts(t *testing.T) {
	for _, f := range []byte{1, 2, 3, 4, 5, 6, 7, 15, 16, 23, 129, 131} {
		for size := range 600 {
			list := bytes.Repeat([]byte{200, 1, 0}, size/3+1)[:size]
			for _, told := range []int{size - 2, size - 1, size, size + 1, size + 2, size / 2, 2 * size} {
				check(t, append([]byte{f, byte(told)}, list...))
			}
		}
	}
	for _, f := range []byte{1, 3, 5, 15, 131} {
		check(t, append([]byte{f, 4}, make([]byte, 1<<20+4)...))
	}
}

// TestChangedBytes: P3.2, each byte of right replies replaced by each other one (of long lists only the first ones and the last one).
func TestChangedBytes(t *testing.T) {
	for _, r := range rights() {
		b := plainBytes(r)
		check(t, b)
		for i, was := range b {
			if i >= 6 && i < len(b)-1 {
				continue
			}
			for c := range 256 {
				b[i] = byte(c)
				check(t, b)
			}
			b[i] = was
		}
	}
}

// TestParseOfBytes: P3.4, a reply comes back from its bytes, which are no other reply's, and not too many.
func TestParseOfBytes(t *testing.T) {
	seen := map[string]api.Reply{}
	longest := 0
	for _, r := range rights() {
		b, e := reply.Bytes(r)
		if e != api.OK {
			t.Fatalf("Bytes(%v): error %d", r, e)
		}
		if got, e := reply.Parse(b); e != api.OK || !reply.Same(got, r) {
			t.Errorf("%v came back as %v, error %d", r, got, e)
		}
		if other, ok := seen[string(b)]; ok && !reply.Same(r, other) {
			t.Errorf("%v and %v have the same bytes", r, other)
		}
		seen[string(b)] = r
		longest = max(longest, len(b))
	}
	if longest > api.MaxPDU || longest != 252 {
		t.Errorf("the longest reply has %d bytes", longest)
	}
}

// asks returns right requests of all functions, and some that are not right.
func asks() []api.Ask {
	l := []api.Ask{
		{}, {Func: 1}, {Func: 2, Many: 2001}, {Func: 3}, {Func: 4, Many: 126}, {Func: 3, Many: 1, To: 1}, {Func: 5}, {Func: 5, At: 1, Bits: []bool{true, true}},
		{Func: 5, At: 1, Many: 1, Bits: []bool{true}}, {Func: 6}, {Func: 6, At: 1, Words: []uint16{1, 2}}, {Func: 7, Many: 1}, {Func: 15, At: 1, Many: 1},
		{Func: 15, At: 1, Many: 1969, Bits: make([]bool, 1969)}, {Func: 16, At: 1, Many: 2, Words: []uint16{1}}, {Func: 23, Many: 1}, {Func: 133, At: 1, Bits: []bool{true}},
	}
	for _, many := range []uint16{1, 2, 7, 8, 9, 10, 15, 16, 17, 124, 125, 126, 1992, 1993, 1999, 2000} {
		l = append(l, api.Ask{Func: 1, At: 3, Many: many}, api.Ask{Func: 2, At: 65535, Many: many})
		if many <= 125 {
			l = append(l, api.Ask{Func: 3, Many: many}, api.Ask{Func: 4, At: 1, Many: many}, api.Ask{Func: 23, Many: many, To: 2, Words: []uint16{1, 2}})
		}
		if many <= 17 {
			l = append(l, api.Ask{Func: 15, At: 1, Many: many, Bits: noise.Bits(int(many))}, api.Ask{Func: 16, At: 258, Many: many, Words: noise.Words(int(many))})
		}
	}
	for _, at := range []uint16{0, 1, 258, 65535} {
		l = append(l, api.Ask{Func: 5, At: at, Bits: []bool{false}}, api.Ask{Func: 5, At: at, Bits: []bool{true}})
		for _, w := range []uint16{0, 1, 258, 65280, 65535} {
			l = append(l, api.Ask{Func: 6, At: at, Words: []uint16{w}})
		}
		l = append(l, api.Ask{Func: 15, At: at, Many: 1968, Bits: make([]bool, 1968)}, api.Ask{Func: 16, At: at, Many: 123, Words: make([]uint16, 123)})
	}
	return l
}

// plainEcho is the chapter's echo.
func plainEcho(a api.Ask) (api.Reply, bool) {
	r := api.Reply{Func: a.Func, At: a.At}
	switch {
	case !ask.Right(a):
		return api.Reply{}, false
	case a.Func == 5:
		r.Bits = a.Bits
	case a.Func == 6:
		r.Words = a.Words
	case a.Func == 15, a.Func == 16:
		r.Many = a.Many
	default:
		return api.Reply{}, false
	}
	return r, true
}

// plainFits is what the chapter says of a reply that fits.
func plainFits(a api.Ask, r api.Reply) bool {
	if !ask.Right(a) || !plainRight(r) || a.Func != r.Func {
		return false
	}
	many := int(a.Many)
	switch {
	case r.Except != 0:
		return true
	case a.Func == 3 || a.Func == 4 || a.Func == 23:
		return len(r.Words) == many
	case a.Func == 1 || a.Func == 2:
		round := many
		for round%8 != 0 {
			round++
		}
		if len(r.Bits) != round {
			return false
		}
		for i := many; i < round; i++ {
			if r.Bits[i] {
				return false
			}
		}
		return true
	}
	e, _ := plainEcho(a)
	return bytes.Equal(plainBytes(e), plainBytes(r))
}

// TestEcho: P3.3, the echo of right requests that write alone; of all others nothing.
func TestEcho(t *testing.T) {
	echoes := 0
	for _, a := range asks() {
		want, ok := plainEcho(a)
		got, has := reply.Echo(a)
		if has != ok || !reply.Same(got, want) {
			t.Errorf("Echo(%v) = %v, %v", a, got, has)
		}
		if ok {
			echoes++
		}
	}
	if echoes < 40 {
		t.Errorf("only %d echoes", echoes)
	}
}

// others returns replies that lie near those that fit a: of other counts, addresses, functions, values, and such as are not right.
func others(a api.Ask) []api.Reply {
	many := int(a.Many)
	l := []api.Reply{{}, {Func: a.Func}, {Func: a.Func, At: a.At}, {Func: a.Func, At: a.At, Many: a.Many, Bits: a.Bits, Words: a.Words}}
	for except := range uint8(6) {
		l = append(l, reply.Wrong(a.Func, except), reply.Wrong(a.Func+1, except), api.Reply{Func: a.Func + 128, Except: except},
			api.Reply{Func: a.Func, Except: except, At: a.At, Many: a.Many}, api.Reply{Func: a.Func, Except: except, Bits: make([]bool, 8), Words: a.Words})
	}
	for _, f := range []uint8{1, 2, 3, 4, 5, 6, 15, 16, 23} {
		for n := max(0, many-9); n <= many+9; n++ {
			l = append(l, api.Reply{Func: f, Bits: make([]bool, n)}, api.Reply{Func: f, Words: noise.Words(n)}, api.Reply{Func: f, At: a.At, Many: uint16(n)})
			bits := make([]bool, n)
			for i := max(0, many-2); i < n; i++ {
				bits[i] = true
				l = append(l, api.Reply{Func: f, Bits: slices.Clone(bits)})
				bits[i] = false
			}
		}
		for _, at := range []uint16{a.At - 1, a.At, a.At + 1, a.At + 256, 256*a.At + a.At/256} {
			l = append(l, api.Reply{Func: f, At: at, Many: a.Many}, api.Reply{Func: f, At: at, Bits: []bool{true}}, api.Reply{Func: f, At: at, Bits: []bool{false}})
			for _, w := range []uint16{0, 1, 257, 258, 259, 65280, 65535} {
				l = append(l, api.Reply{Func: f, At: at, Words: []uint16{w}})
			}
		}
	}
	return l
}

// TestFits: P3.3, requests held against replies that fit, or nearly so.
func TestFits(t *testing.T) {
	fit := map[uint8]int{}
	for _, a := range asks() {
		for _, r := range others(a) {
			want := plainFits(a, r)
			if want && r.Except == 0 {
				fit[a.Func]++
			}
			if got := reply.Fits(a, r); got != want {
				t.Fatalf("Fits(%v, %v) = %v", a, r, got)
			}
		}
	}
	if len(fit) != 9 {
		t.Errorf("replies that fit were tried of the functions %v alone", fit)
	}
}

// TestFitsExample: P3.3, the chapter's example: bits that fill the last byte must be off.
func TestFitsExample(t *testing.T) {
	a := api.Ask{Func: 1, At: 19, Many: 10}
	bits := noise.Bits(16)
	for i := 10; i < 16; i++ {
		clear(bits[10:])
		if !reply.Fits(a, api.Reply{Func: 1, Bits: bits}) {
			t.Error("a reply of 16 bits does not fit")
		}
		bits[i] = true
		if reply.Fits(a, api.Reply{Func: 1, Bits: bits}) {
			t.Errorf("bit %d is on, and it fits", i)
		}
	}
	if reply.Fits(a, api.Reply{Func: 2, Bits: make([]bool, 16)}) || reply.Fits(a, api.Reply{Func: 1, Bits: make([]bool, 24)}) || reply.Fits(a, api.Reply{Func: 1, Bits: make([]bool, 8)}) {
		t.Error("another reply fits")
	}
}

// TestEchoAloneFits: P3.4, of the replies to a request that writes the echo fits, and exceptions of its function, and nothing else.
func TestEchoAloneFits(t *testing.T) {
	all := rights()
	for _, a := range asks() {
		echo, ok := reply.Echo(a)
		if !ok {
			continue
		}
		if !reply.Right(echo) || !reply.Fits(a, echo) {
			t.Errorf("the echo of %v does not fit", a)
		}
		for _, r := range append(others(a), all...) {
			want := reply.Same(r, echo) || r.Func == a.Func && r.Except != 0 && reply.Right(r)
			if got := reply.Fits(a, r); got != want {
				t.Fatalf("Fits(%v, %v) = %v", a, r, got)
			}
		}
	}
}

// TestExceptionsFit: P3.4, each exception fits each right request of its function, and no other; none fits a request that is not right.
func TestExceptionsFit(t *testing.T) {
	for _, a := range asks() {
		for f := range 128 {
			for except := range uint8(6) {
				want := ask.Right(a) && int(a.Func) == f && 1 <= except && except <= 4
				if got := reply.Fits(a, reply.Wrong(uint8(f), except)); got != want {
					t.Fatalf("Fits(%v, Wrong(%d, %d)) = %v", a, f, except, got)
				}
			}
		}
	}
}

// TestMemory: R3, arguments do not change, with their spare capacity, and results share no memory with them or with one another.
func TestMemory(t *testing.T) {
	words, bits := noise.Words(4), noise.Bits(24)
	b, _ := reply.Bytes(api.Reply{Func: 3, Words: words[:2]})
	c, _ := reply.Bytes(api.Reply{Func: 1, Bits: bits[:16]})
	clear(b[:cap(b)])
	clear(c[:cap(c)])
	reply.Fits(api.Ask{Func: 1, Many: 9}, api.Reply{Func: 1, Bits: bits[:16]})
	bit, _ := reply.Echo(api.Ask{Func: 5, Bits: bits[:1]})
	word, _ := reply.Echo(api.Ask{Func: 6, Words: words[:1]})
	bit.Bits[0] = !bit.Bits[0]
	word.Words[0]++
	clear(bit.Bits[:cap(bit.Bits)])
	clear(word.Words[:cap(word.Words)])
	if !slices.Equal(words, noise.Words(4)) || !slices.Equal(bits, noise.Bits(24)) {
		t.Error("an argument has changed:", words, bits)
	}
	for _, row := range [][]byte{{3, 4, 0, 1, 0, 2, 9, 9}, {1, 2, 5, 1, 9, 9}, {5, 0, 1, 255, 0, 9, 9}, {6, 0, 1, 0, 2, 9, 9}} {
		before := bytes.Clone(row)
		one, _ := reply.Parse(row[:len(row)-2])
		two, _ := reply.Parse(row[:len(row)-2])
		clear(one.Words[:cap(one.Words)])
		clear(one.Bits[:cap(one.Bits)])
		if !bytes.Equal(row, before) {
			t.Error("the argument has changed:", row)
		}
		clear(row)
		if !bytes.Equal(plainBytes(two), before[:len(before)-2]) {
			t.Error("a result has changed:", two)
		}
	}
}
