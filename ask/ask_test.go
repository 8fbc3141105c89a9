package ask_test

import (
	"bytes"
	"slices"
	"testing"

	"saucier/api"
	"saucier/ask"
	"saucier/noise"
)

// rights returns right requests of all functions, with the least and the greatest counts, and others.
func rights() []api.Ask {
	var l []api.Ask
	for _, at := range []uint16{0, 1, 255, 256, 258, 65535} {
		for f := uint8(1); f <= 4; f++ {
			for _, many := range []uint16{1, 2, 3, 124, 125} {
				l = append(l, api.Ask{Func: f, At: at, Many: many})
			}
		}
		for _, many := range []uint16{126, 255, 256, 257, 1999, 2000} {
			l = append(l, api.Ask{Func: 1, At: at, Many: many}, api.Ask{Func: 2, At: at, Many: many})
		}
		l = append(l, api.Ask{Func: 5, At: at, Bits: []bool{false}}, api.Ask{Func: 5, At: at, Bits: []bool{true}})
		for _, w := range []uint16{0, 1, 255, 256, 65280, 65535} {
			l = append(l, api.Ask{Func: 6, At: at, Words: []uint16{w}})
		}
		for _, n := range []int{1, 2, 7, 8, 9, 15, 16, 17, 255, 256, 257, 1960, 1961, 1967, 1968} {
			l = append(l, api.Ask{Func: 15, At: at, Many: uint16(n), Bits: noise.Bits(n)}, api.Ask{Func: 15, At: at, Many: uint16(n), Bits: make([]bool, n)})
		}
		for _, n := range []int{1, 2, 3, 122, 123} {
			l = append(l, api.Ask{Func: 16, At: at, Many: uint16(n), Words: noise.Words(n)})
		}
		for _, n := range []int{1, 2, 3, 120, 121} {
			for _, many := range []uint16{1, 2, 124, 125} {
				l = append(l, api.Ask{Func: 23, At: at, Many: many, To: 3*at + 1, Words: noise.Words(n)})
			}
		}
		l = append(l, api.Ask{Func: 23, At: at, Many: 7, To: 0, Words: []uint16{0}})
	}
	return l
}

// plainRight is the chapter's table, a line each.
func plainRight(a api.Ask) bool {
	many, words, bits := int(a.Many), len(a.Words), len(a.Bits)
	switch a.Func {
	case 1, 2:
		return 1 <= many && many <= 2000 && a.To == 0 && words == 0 && bits == 0
	case 3, 4:
		return 1 <= many && many <= 125 && a.To == 0 && words == 0 && bits == 0
	case 5:
		return many == 0 && a.To == 0 && words == 0 && bits == 1
	case 6:
		return many == 0 && a.To == 0 && words == 1 && bits == 0
	case 15:
		return 1 <= many && many <= 1968 && a.To == 0 && words == 0 && bits == many
	case 16:
		return 1 <= many && many <= 123 && a.To == 0 && words == many && bits == 0
	case 23:
		return 1 <= many && many <= 125 && 1 <= words && words <= 121 && bits == 0
	}
	return false
}

// plainBytes is the bytes that the chapter's table gives a right request.
func plainBytes(a api.Ask) []byte {
	two := func(n uint16) []byte { return []byte{byte(n / 256), byte(n % 256)} }
	var words []byte
	for _, w := range a.Words {
		words = append(words, two(w)...)
	}
	packed := make([]byte, (len(a.Bits)+7)/8)
	for i, on := range a.Bits {
		if on {
			packed[i/8] += []byte{1, 2, 4, 8, 16, 32, 64, 128}[i%8]
		}
	}
	b := append([]byte{a.Func}, two(a.At)...)
	switch a.Func {
	case 5:
		if a.Bits[0] {
			return append(b, 255, 0)
		}
		return append(b, 0, 0)
	case 6:
		return append(b, words...)
	}
	b = append(b, two(a.Many)...)
	switch a.Func {
	case 15:
		b = append(append(b, byte(len(packed))), packed...)
	case 16:
		b = append(append(b, byte(len(words))), words...)
	case 23:
		b = append(append(b, two(a.To)...), two(uint16(len(a.Words)))...)
		b = append(append(b, byte(len(words))), words...)
	}
	return b
}

// plainWrong is what is wrong with bytes, by the chapter's table.
func plainWrong(b []byte) uint8 {
	if len(b) == 0 || !bytes.Contains([]byte{1, 2, 3, 4, 5, 6, 15, 16, 23}, b[:1]) {
		return api.ExFunc
	}
	number := func(i int) int { return int(b[i])*256 + int(b[i+1]) }
	among := func(n, most int) bool { return 1 <= n && n <= most }
	ok := false
	switch f := b[0]; f {
	case 1, 2:
		ok = len(b) == 5 && among(number(3), 2000)
	case 3, 4:
		ok = len(b) == 5 && among(number(3), 125)
	case 5:
		ok = len(b) == 5 && (number(3) == 0 || number(3) == 65280)
	case 6:
		ok = len(b) == 5
	case 15:
		if len(b) > 6 && among(number(3), 1968) {
			many := number(3)
			size := (many + 7) / 8
			ok = int(b[5]) == size && len(b) == 6+size && (many%8 == 0 || b[len(b)-1]>>(many%8) == 0)
		}
	case 16:
		ok = len(b) > 6 && among(number(3), 123) && int(b[5]) == 2*number(3) && len(b) == 6+2*number(3)
	case 23:
		ok = len(b) > 10 && among(number(3), 125) && among(number(7), 121) && int(b[9]) == 2*number(7) && len(b) == 10+2*number(7)
	}
	if ok {
		return 0
	}
	return api.ExValue
}

// TestPack: P2.1, eight bits in a byte, the first one in its lowest bit, and zeros behind the last one.
func TestPack(t *testing.T) {
	on := []bool{true, true, true, true, true, true, true, true, true}
	for _, x := range []struct {
		bits []bool
		want []byte
	}{
		{nil, nil},
		{[]bool{}, nil},
		{[]bool{false}, []byte{0}},
		{[]bool{true}, []byte{1}},
		{[]bool{false, true}, []byte{2}},
		{[]bool{true, false, true, true}, []byte{13}},
		{on[:7], []byte{127}},
		{on[:8], []byte{255}},
		{on, []byte{255, 1}},
		{[]bool{false, false, false, false, false, false, false, true, false}, []byte{128, 0}},
		{make([]bool, 16), []byte{0, 0}},
		{make([]bool, 17), []byte{0, 0, 0}},
	} {
		if got := ask.Pack(x.bits); !bytes.Equal(got, x.want) {
			t.Errorf("Pack(%v) = %v, want %v", x.bits, got, x.want)
		}
	}
}

// TestUnpack: P2.1, eight bits of each byte, its lowest one first.
func TestUnpack(t *testing.T) {
	if got := ask.Unpack(nil); len(got) != 0 {
		t.Error(got)
	}
	for c := range 256 {
		got := ask.Unpack([]byte{0, byte(c), 255})
		if len(got) != 24 || slices.Contains(got[:8], true) || slices.Contains(got[16:], false) {
			t.Fatalf("Unpack(0, %d, 255) = %v", c, got)
		}
		for i, n := range []int{1, 2, 4, 8, 16, 32, 64, 128} {
			if got[8+i] != (c/n%2 == 1) {
				t.Errorf("Unpack: bit %d of %d = %v", i, c, got[8+i])
			}
		}
	}
}

// TestUnpackOfPack: P2.1, the bits come back, with as many off as fill the last byte; so of more than a request can have.
func TestUnpackOfPack(t *testing.T) {
	for n := range 3000 {
		bits := noise.Bits(n)
		b := ask.Pack(bits)
		if len(b) != (n+7)/8 {
			t.Fatalf("%d bits in %d bytes", n, len(b))
		}
		got := ask.Unpack(b)
		if len(got) != 8*len(b) || !slices.Equal(got[:n], bits) || slices.Contains(got[n:], true) {
			t.Fatalf("%d bits came back as others", n)
		}
	}
}

// TestRight: P2.1, all functions, with each combination of counts at and about the limits, and of fields that should be zero.
func TestRight(t *testing.T) {
	right, zeros, offs := 0, make([]uint16, 126), make([]bool, 2000)
	for f := range 256 {
		for _, many := range []uint16{0, 1, 2, 121, 122, 123, 124, 125, 126, 1967, 1968, 1969, 2000, 2001, 65535} {
			for _, words := range []int{0, 1, 2, 121, 122, 123, 124, 125, 126} {
				for _, bits := range []int{0, 1, 2, 123, 1967, 1968, 1969, 2000} {
					for _, to := range []uint16{0, 1, 65535} {
						a := api.Ask{Func: uint8(f), At: 9, Many: many, To: to, Words: zeros[:words], Bits: offs[:bits]}
						want := plainRight(a)
						if want {
							right++
						}
						if got := ask.Right(a); got != want {
							t.Fatalf("Right of function %d, many %d, to %d, %d words, %d bits: %v", f, many, to, words, bits, got)
						}
					}
				}
			}
		}
	}
	if right == 0 {
		t.Error("no right request was tried")
	}
	for i, a := range rights() {
		if !ask.Right(a) {
			t.Errorf("request %d of function %d is not right", i, a.Func)
		}
	}
}

// TestRightZero: P2.1, the zero request is none; lists that would fit a Many of 16 bits only by wrapping round are too long.
func TestRightZero(t *testing.T) {
	for _, a := range []api.Ask{
		{},
		{Func: 15, Many: 1, Bits: make([]bool, 65537)},
		{Func: 16, Many: 1, Words: make([]uint16, 65537)},
		{Func: 23, Many: 1, Words: make([]uint16, 65537)},
		{Func: 5, Bits: make([]bool, 65537)},
		{Func: 6, Words: make([]uint16, 65537)},
		{Func: 1, Many: 1, Words: make([]uint16, 65536)},
	} {
		if ask.Right(a) {
			t.Errorf("function %d, %d bits, %d words: right", a.Func, len(a.Bits), len(a.Words))
		}
	}
}

// TestSame: P2.1, a difference in any one field shows; nil is the same as empty (R6); wrong requests are compared, too.
func TestSame(t *testing.T) {
	whole := func() api.Ask {
		return api.Ask{Func: 23, At: 1, Many: 2, To: 3, Words: []uint16{4, 5}, Bits: []bool{true, false}}
	}
	if !ask.Same(whole(), whole()) || !ask.Same(api.Ask{}, api.Ask{}) {
		t.Error("not the same as itself")
	}
	if !ask.Same(api.Ask{Words: []uint16{}}, api.Ask{Bits: []bool{}}) {
		t.Error("empty and nil differ")
	}
	for i, change := range []func(*api.Ask){
		func(a *api.Ask) { a.Func = 22 },
		func(a *api.Ask) { a.At = 257 },
		func(a *api.Ask) { a.Many = 258 },
		func(a *api.Ask) { a.To = 259 },
		func(a *api.Ask) { a.Words[0] = 260 },
		func(a *api.Ask) { a.Words[1] = 4 },
		func(a *api.Ask) { a.Words = a.Words[:1] },
		func(a *api.Ask) { a.Words = nil },
		func(a *api.Ask) { a.Words = append(a.Words, 0) },
		func(a *api.Ask) { a.Bits[0] = false },
		func(a *api.Ask) { a.Bits[1] = true },
		func(a *api.Ask) { a.Bits = a.Bits[:1] },
		func(a *api.Ask) { a.Bits = nil },
		func(a *api.Ask) { a.Bits = append(a.Bits, false) },
	} {
		a := whole()
		change(&a)
		if ask.Same(a, whole()) || ask.Same(whole(), a) {
			t.Errorf("change %d does not show", i)
		}
	}
}

// TestExamples: P2.2, the chapter's examples, and one of each function, both ways.
func TestExamples(t *testing.T) {
	for _, x := range []struct {
		a api.Ask
		b []byte
	}{
		{api.Ask{Func: 3, At: 107, Many: 3}, []byte{3, 0, 107, 0, 3}},
		{api.Ask{Func: 15, At: 19, Many: 4, Bits: []bool{true, false, true, true}}, []byte{15, 0, 19, 0, 4, 1, 13}},
		{api.Ask{Func: 5, At: 172, Bits: []bool{true}}, []byte{5, 0, 172, 255, 0}},
		{api.Ask{Func: 5, At: 172, Bits: []bool{false}}, []byte{5, 0, 172, 0, 0}},
		{api.Ask{Func: 1, At: 258, Many: 2000}, []byte{1, 1, 2, 7, 208}},
		{api.Ask{Func: 2, At: 65535, Many: 1}, []byte{2, 255, 255, 0, 1}},
		{api.Ask{Func: 4, Many: 125}, []byte{4, 0, 0, 0, 125}},
		{api.Ask{Func: 6, At: 1, Words: []uint16{772}}, []byte{6, 0, 1, 3, 4}},
		{api.Ask{Func: 16, At: 1, Many: 2, Words: []uint16{10, 258}}, []byte{16, 0, 1, 0, 2, 4, 0, 10, 1, 2}},
		{api.Ask{Func: 23, At: 1, Many: 2, To: 772, Words: []uint16{258}}, []byte{23, 0, 1, 0, 2, 3, 4, 0, 1, 2, 1, 2}},
	} {
		if b, e := ask.Bytes(x.a); e != api.OK || !bytes.Equal(b, x.b) {
			t.Errorf("Bytes(%v) = %v, %d", x.a, b, e)
		}
		if a, e := ask.Parse(x.b); e != api.OK || !ask.Same(a, x.a) {
			t.Errorf("Parse(%v) = %v, %d", x.b, a, e)
		}
	}
}

// TestBytes: P2.2, the bytes of the chapter's table.
func TestBytes(t *testing.T) {
	for _, a := range rights() {
		if b, e := ask.Bytes(a); e != api.OK || !bytes.Equal(b, plainBytes(a)) {
			t.Errorf("Bytes(%v) = %v, %d", a, b, e)
		}
	}
}

// TestBytesErrors: P2.2, of a request that is not right there is an error, and nothing else (R2).
func TestBytesErrors(t *testing.T) {
	for _, a := range []api.Ask{
		{},
		{Func: 7},
		{Func: 131, Many: 1},
		{Func: 1},
		{Func: 1, Many: 2001},
		{Func: 2, Many: 65535},
		{Func: 3, Many: 126},
		{Func: 4, Many: 1, To: 1},
		{Func: 3, Many: 1, Words: []uint16{0}},
		{Func: 3, Many: 1, Bits: []bool{false}},
		{Func: 5},
		{Func: 5, Many: 1, Bits: []bool{true}},
		{Func: 5, Bits: []bool{true, true}},
		{Func: 6},
		{Func: 6, Words: []uint16{1, 2}},
		{Func: 6, Words: []uint16{1}, Bits: []bool{true}},
		{Func: 15},
		{Func: 15, Many: 2, Bits: []bool{true}},
		{Func: 15, Many: 1969, Bits: make([]bool, 1969)},
		{Func: 15, Many: 2, Bits: []bool{true}, Words: []uint16{1}},
		{Func: 16, Many: 1, Words: []uint16{1, 2}},
		{Func: 16, Many: 1, To: 1, Words: []uint16{1}},
		{Func: 16, Many: 124, Words: make([]uint16, 124)},
		{Func: 16, Many: 2, Bits: []bool{true}, Words: []uint16{1}},
		{Func: 23, Words: []uint16{1}},
		{Func: 23, Many: 1},
		{Func: 23, Many: 126, Words: []uint16{1}},
		{Func: 23, Many: 1, Words: make([]uint16, 122)},
		{Func: 23, Many: 1, Words: []uint16{1}, Bits: []bool{true}},
	} {
		if b, e := ask.Bytes(a); e != api.ErrAsk || len(b) != 0 {
			t.Errorf("Bytes(%v) = %v, %d", a, b, e)
		}
	}
}

// check holds Parse and Look against the chapter for some bytes.
func check(t *testing.T, b []byte) {
	t.Helper()
	before := bytes.Clone(b)
	want := plainWrong(b)
	a, wrong := ask.Look(b)
	p, e := ask.Parse(b)
	if !bytes.Equal(b, before) {
		t.Fatalf("%v has changed to %v", before, b)
	}
	if wrong != want || (e == api.OK) != (want == 0) {
		t.Fatalf("%v: Look says %d, Parse %d, want %d", b, wrong, e, want)
	}
	if want == 0 {
		if !plainRight(p) || !bytes.Equal(plainBytes(p), b) || !ask.Same(a, p) {
			t.Fatalf("%v: Parse = %v, Look = %v", b, p, a)
		}
		return
	}
	var first uint8
	if len(b) > 0 {
		first = b[0]
	}
	if e != api.ErrAsk || !ask.Same(p, api.Ask{}) || !ask.Same(a, api.Ask{Func: first}) {
		t.Fatalf("%v: Parse = %v, %d, Look = %v", b, p, e, a)
	}
}

// TestLookExamples: P2.3, the chapter's examples.
func TestLookExamples(t *testing.T) {
	for _, x := range []struct {
		b     []byte
		f     uint8
		wrong uint8
	}{
		{nil, 0, api.ExFunc},
		{[]byte{}, 0, api.ExFunc},
		{[]byte{0}, 0, api.ExFunc},
		{[]byte{7}, 7, api.ExFunc},
		{[]byte{131, 2}, 131, api.ExFunc},
		{[]byte{255, 0, 0, 0, 1}, 255, api.ExFunc},
		{[]byte{3}, 3, api.ExValue},
		{[]byte{5, 0, 172, 255, 1}, 5, api.ExValue},
		{[]byte{3, 0, 0, 0, 126}, 3, api.ExValue},
	} {
		a, wrong := ask.Look(x.b)
		if wrong != x.wrong || !ask.Same(a, api.Ask{Func: x.f}) {
			t.Errorf("Look(%v) = %v, %d", x.b, a, wrong)
		}
		if a, e := ask.Parse(x.b); e != api.ErrAsk || !ask.Same(a, api.Ask{}) {
			t.Errorf("Parse(%v) = %v, %d", x.b, a, e)
		}
	}
}

// TestChangedBytes: P2.2 and P2.3, each byte of right requests replaced by each other one (of long lists only the first and the last ones).
func TestChangedBytes(t *testing.T) {
	for _, a := range rights() {
		if a.At != 258 {
			continue // addresses are replaced anyway
		}
		b := plainBytes(a)
		check(t, b)
		for i := range min(len(b), 14) {
			was := b[i]
			for c := range 256 {
				b[i] = byte(c)
				check(t, b)
			}
			b[i] = was
		}
		for c := range 256 {
			b[len(b)-1] = byte(c)
			check(t, b)
		}
	}
}

// TestAllNumbers: P2.2 and P2.3, each count and each value of two bytes that can stand behind an address.
func TestAllNumbers(t *testing.T) {
	for _, f := range []byte{1, 2, 3, 4, 5, 6, 7, 15, 16, 23} {
		for n := range 65536 {
			check(t, []byte{f, 1, 2, byte(n >> 8), byte(n)})
		}
	}
}

// TestAllCounts: P2.2 and P2.3, lists with each number of bytes, which is told, or told wrongly.
func TestAllCounts(t *testing.T) {
	for many := range 2100 {
		for _, size := range []int{(many + 6) / 8, (many + 7) / 8, many/8 + 1, 2*many - 1, 2 * many, 2*many + 1} {
			if size < 0 || size > 300 {
				continue
			}
			for _, tail := range [][]byte{make([]byte, size), bytes.Repeat([]byte{1}, size)} {
				check(t, append([]byte{15, 0, 1, byte(many >> 8), byte(many), byte(size)}, tail...))
				check(t, append([]byte{16, 0, 1, byte(many >> 8), byte(many), byte(size)}, tail...))
				check(t, append([]byte{23, 0, 1, 0, 125, 0, 1, byte(many >> 8), byte(many), byte(size)}, tail...))
				check(t, append([]byte{23, 0, 1, byte(many >> 8), byte(many), 0, 1, 0, byte(size / 2), byte(size)}, tail...))
			}
		}
	}
}

// TestMissingBits: P2.2, bits of the last byte behind those that are written must be 0.
func TestMissingBits(t *testing.T) {
	for many := 1; many <= 8; many++ {
		for c := range 256 {
			a, e := ask.Parse([]byte{15, 0, 0, 0, byte(many), 1, byte(c)})
			if ok := c < 1<<many; (e == api.OK) != ok {
				t.Errorf("%d bits, byte %d: error %d", many, c, e)
			}
			if e == api.OK && len(a.Bits) != many {
				t.Errorf("%d bits, byte %d: %v", many, c, a)
			}
		}
	}
}

// TestParseOfBytes: P2.4, a request comes back from its bytes, which are no other request's, and not too many.
func TestParseOfBytes(t *testing.T) {
	seen := map[string]api.Ask{}
	longest := 0
	for _, a := range rights() {
		b, e := ask.Bytes(a)
		if e != api.OK {
			t.Fatalf("Bytes(%v): error %d", a, e)
		}
		if got, e := ask.Parse(b); e != api.OK || !ask.Same(got, a) {
			t.Errorf("%v came back as %v, error %d", a, got, e)
		}
		if got, wrong := ask.Look(b); wrong != 0 || !ask.Same(got, a) {
			t.Errorf("%v came back as %v, wrong %d", a, got, wrong)
		}
		if other, ok := seen[string(b)]; ok && !ask.Same(a, other) {
			t.Errorf("%v and %v have the same bytes", a, other)
		}
		seen[string(b)] = a
		longest = max(longest, len(b))
	}
	if longest > api.MaxPDU || longest != 252 {
		t.Errorf("the longest request has %d bytes", longest)
	}
}

// TestOtherLengths: P2.4, a request with a byte less, or with any one more, behind it is none.
func TestOtherLengths(t *testing.T) {
	for _, a := range rights() {
		b, _ := ask.Bytes(a)
		for n := range b {
			if got, e := ask.Parse(b[:n]); e != api.ErrAsk || !ask.Same(got, api.Ask{}) {
				t.Fatalf("the first %d bytes of %v: %v, error %d", n, b, got, e)
			}
		}
		for c := range 256 {
			if got, e := ask.Parse(append(bytes.Clone(b), byte(c))); e != api.ErrAsk || !ask.Same(got, api.Ask{}) {
				t.Fatalf("%v and %d: %v, error %d", b, c, got, e)
			}
		}
	}
	for _, f := range []byte{1, 5, 6, 15, 16, 23} {
		check(t, append([]byte{f, 0, 0, 0, 1, 2}, make([]byte, 1<<16)...))
	}
}

// TestMemory: R3, arguments do not change, with their spare capacity, and results share no memory with them or with one another.
func TestMemory(t *testing.T) {
	words, flags := []uint16{1, 2, 3, 4}, []bool{true, false, true, true}
	a := api.Ask{Func: 16, Many: 2, Words: words[:2]}
	b, _ := ask.Bytes(a)
	clear(b[:cap(b)])
	packed := ask.Pack(flags[:2])
	clear(packed[:cap(packed)])
	if !slices.Equal(words, []uint16{1, 2, 3, 4}) || !slices.Equal(flags, []bool{true, false, true, true}) {
		t.Error("an argument has changed:", words, flags)
	}
	for _, row := range [][]byte{{16, 0, 0, 0, 2, 4, 0, 1, 0, 2, 9, 9}, {15, 0, 0, 0, 9, 2, 5, 1, 9, 9}} {
		before := bytes.Clone(row)
		one, _ := ask.Parse(row[:len(row)-2])
		two, _ := ask.Look(row[:len(row)-2])
		three, _ := ask.Parse(row[:len(row)-2])
		clear(one.Words[:cap(one.Words)])
		clear(one.Bits[:cap(one.Bits)])
		if !bytes.Equal(row, before) {
			t.Error("the argument has changed:", row)
		}
		clear(row)
		if !ask.Same(two, three) || !bytes.Equal(plainBytes(two), before[:len(before)-2]) {
			t.Error("a result has changed:", two, three)
		}
	}
	row := []byte{5}
	bits := ask.Unpack(row)
	row[0] = 0
	if !slices.Equal(bits, []bool{true, false, true, false, false, false, false, false}) {
		t.Error("a result has changed:", bits)
	}
}
