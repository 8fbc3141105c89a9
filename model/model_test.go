package model_test

import (
	"bytes"
	"math"
	"slices"
	"testing"

	"saucier/api"
	"saucier/ask"
	"saucier/model"
	"saucier/noise"
	"saucier/reply"
)

// dice returns a function that returns numbers from 0 to below n, the same ones each time for a seed.
func dice(seed int) func(n int) int {
	l := noise.Words(1000 + seed)
	i := 0
	return func(n int) int {
		i = (i + 1) % len(l)
		return int(l[i]) % n
	}
}

// plainHas is whether an area has an address, for areas that are not so great that their ends wrap round.
func plainHas(a api.Area, x int) bool { return a.At <= x && x < a.At+a.Many }

// plainArea is the area of an address.
func plainArea(l []api.Area, x int) (api.Area, bool) {
	for _, a := range l {
		if plainHas(a, x) {
			return a, true
		}
	}
	return api.Area{}, false
}

// plainReadable is whether n addresses are readable, by the chapter.
func plainReadable(l []api.Area, at, n int) bool {
	for x := at; x < at+n; x++ {
		if a, ok := plainArea(l, x); !ok || !a.Read {
			return false
		}
	}
	return true
}

// plainWritable is whether n addresses are writable, by the chapter.
func plainWritable(l []api.Area, at, n int) bool {
	for x := at; x < at+n; x++ {
		a, ok := plainArea(l, x)
		if !ok || !a.Write {
			return false
		}
		if a.Whole && !(a.At == at && a.Many == n) {
			return false
		}
	}
	return true
}

// plainCheck is the chapter's Check, function by function.
func plainCheck(s api.Space, a api.Ask) uint8 {
	if !ask.Right(a) {
		return 3
	}
	at, many, ok := int(a.At), int(a.Many), false
	switch a.Func {
	case 1:
		ok = plainReadable(s.Coils, at, many)
	case 2:
		ok = plainReadable(s.Inputs, at, many)
	case 3:
		ok = plainReadable(s.Holding, at, many)
	case 4:
		ok = plainReadable(s.Words, at, many)
	case 5:
		ok = plainWritable(s.Coils, at, 1)
	case 6:
		ok = plainWritable(s.Holding, at, 1)
	case 15:
		ok = plainWritable(s.Coils, at, many)
	case 16:
		ok = plainWritable(s.Holding, at, many)
	case 23:
		ok = plainReadable(s.Holding, at, many) && plainWritable(s.Holding, int(a.To), len(a.Words))
	}
	if !ok {
		return 2
	}
	return 0
}

// plainRight is the chapter's Right, for areas that are not so great that their ends wrap round.
func plainRight(s api.Space, m api.Mem) bool {
	for i, l := range [][]api.Area{s.Coils, s.Inputs, s.Holding, s.Words} {
		long := []int{len(m.Coils), len(m.Inputs), len(m.Holding), len(m.Words)}[i]
		if long > 65536 {
			return false
		}
		for j, a := range l {
			if a.At < 0 || a.Many < 1 || a.At+a.Many > long {
				return false
			}
			if j > 0 && (a.At <= l[j-1].At || a.At < l[j-1].At+l[j-1].Many) {
				return false
			}
			if a.Write && (i == 1 || i == 3) {
				return false
			}
		}
	}
	return true
}

// copied is a memory with nothing of m in it.
func copied(m api.Mem) api.Mem {
	return api.Mem{
		Coils:   append([]bool{}, m.Coils...),
		Inputs:  append([]bool{}, m.Inputs...),
		Holding: append([]uint16{}, m.Holding...),
		Words:   append([]uint16{}, m.Words...),
	}
}

// equal is whether two memories are the same, told without model.Same.
func equal(a, b api.Mem) bool {
	return slices.Equal(a.Coils, b.Coils) && slices.Equal(a.Inputs, b.Inputs) &&
		slices.Equal(a.Holding, b.Holding) && slices.Equal(a.Words, b.Words)
}

// bitsAt is bits of a table, with some more that are off.
func bitsAt(l []bool, at, n int) []bool {
	out := append([]bool{}, l[at:at+n]...)
	for len(out)%8 != 0 {
		out = append(out, false)
	}
	return out
}

// plainDo is the chapter's Do.
func plainDo(s api.Space, m api.Mem, a api.Ask) (api.Mem, api.Reply) {
	m = copied(m)
	if wrong := plainCheck(s, a); wrong > 0 {
		return m, api.Reply{Func: a.Func % 128, Except: wrong}
	}
	if !plainRight(s, m) {
		return m, api.Reply{Func: a.Func % 128, Except: 4}
	}
	at, many := int(a.At), int(a.Many)
	r := api.Reply{Func: a.Func}
	switch a.Func {
	case 1:
		r.Bits = bitsAt(m.Coils, at, many)
	case 2:
		r.Bits = bitsAt(m.Inputs, at, many)
	case 3:
		r.Words = m.Holding[at : at+many]
	case 4:
		r.Words = m.Words[at : at+many]
	case 5:
		m.Coils[at] = a.Bits[0]
		r.At, r.Bits = a.At, a.Bits
	case 6:
		m.Holding[at] = a.Words[0]
		r.At, r.Words = a.At, a.Words
	case 15:
		for i, on := range a.Bits {
			m.Coils[at+i] = on
		}
		r.At, r.Many = a.At, a.Many
	case 16:
		for i, w := range a.Words {
			m.Holding[at+i] = w
		}
		r.At, r.Many = a.At, a.Many
	case 23:
		for i, w := range a.Words {
			m.Holding[int(a.To)+i] = w
		}
		r.Words = m.Holding[at : at+many]
	}
	return m, r
}

// memory has as many cells as told, like noise.
func memory(coils, inputs, holding, words int) api.Mem {
	return api.Mem{Coils: noise.Bits(coils), Inputs: noise.Bits(inputs), Holding: noise.Words(holding), Words: noise.Words(words)}
}

// rightAreas are some areas in a table that is that long, as they may be.
func rightAreas(roll func(int) int, long int, write bool) []api.Area {
	var l []api.Area
	for at := roll(3); at < long; {
		many := min(1+roll(6), long-at)
		l = append(l, api.Area{At: at, Many: many, Read: roll(4) > 0, Write: write && roll(4) > 0, Whole: roll(4) == 0})
		at += many
		if roll(3) == 0 {
			at += 1 + roll(2)
		}
	}
	return l
}

// rightPair is a space and a memory that are right, of short tables.
func rightPair(seed int) (api.Space, api.Mem) {
	roll := dice(seed)
	m := memory(roll(24), roll(24), roll(24), roll(24))
	return api.Space{
		Coils:   rightAreas(roll, len(m.Coils), true),
		Inputs:  rightAreas(roll, len(m.Inputs), false),
		Holding: rightAreas(roll, len(m.Holding), true),
		Words:   rightAreas(roll, len(m.Words), false),
	}, m
}

// anyAreas are areas that overlap, begin below 0, have no addresses, or end anywhere.
func anyAreas(roll func(int) int) []api.Area {
	l := make([]api.Area, roll(5))
	for i := range l {
		l[i] = api.Area{At: roll(20) - 4, Many: roll(14) - 3, Read: roll(4) > 0, Write: roll(4) > 0, Whole: roll(3) == 0}
	}
	return l
}

// anyPair is a space of any short areas, and a memory.
func anyPair(seed int) (api.Space, api.Mem) {
	roll := dice(seed)
	s := api.Space{Coils: anyAreas(roll), Inputs: anyAreas(roll), Holding: anyAreas(roll), Words: anyAreas(roll)}
	return s, memory(roll(20), roll(20), roll(20), roll(20))
}

// shortAsks are right requests of all functions, with addresses about those of short tables, and counts of all sorts.
func shortAsks() []api.Ask {
	var l []api.Ask
	for at := range uint16(28) {
		l = append(l, api.Ask{Func: 5, At: at, Bits: []bool{at%2 == 0}}, api.Ask{Func: 6, At: at, Words: []uint16{65535 - at}})
		for _, many := range []uint16{1, 2, 3, 4, 5, 7, 8, 9, 16, 17} {
			for f := uint8(1); f <= 4; f++ {
				l = append(l, api.Ask{Func: f, At: at, Many: many})
			}
			bits, words := noise.Bits(int(many)), noise.Words(int(many))
			l = append(l, api.Ask{Func: 15, At: at, Many: many, Bits: bits}, api.Ask{Func: 16, At: at, Many: many, Words: words})
			for _, to := range []uint16{0, 1, 3, 4, 6, 9, at, at + many, 20} {
				l = append(l, api.Ask{Func: 23, At: at, Many: 1 + many/3, To: to, Words: words})
			}
		}
	}
	return l
}

// wrongAsks are requests that are not right.
func wrongAsks() []api.Ask {
	l := []api.Ask{
		{},
		{Func: 1},
		{Func: 1, Many: 2001},
		{Func: 3, Many: 126},
		{Func: 4, Many: 1, To: 1},
		{Func: 2, Many: 1, Words: []uint16{1}},
		{Func: 3, Many: 1, Bits: []bool{true}},
		{Func: 5, Bits: []bool{true, true}},
		{Func: 5},
		{Func: 6},
		{Func: 6, Many: 1, Words: []uint16{1}},
		{Func: 15, Many: 2, Bits: []bool{true}},
		{Func: 15, Many: 1969, Bits: make([]bool, 1969)},
		{Func: 16, Many: 1, Words: []uint16{1, 2}},
		{Func: 16, Many: 2, Words: []uint16{1}},
		{Func: 16, Many: 1, Words: make([]uint16, 65537)},
		{Func: 23, Many: 1},
		{Func: 23, Words: []uint16{1}},
		{Func: 23, Many: 1, Words: make([]uint16, 122)},
	}
	for f := range 256 {
		if !slices.Contains([]int{1, 2, 3, 4, 5, 6, 15, 16, 23}, f) {
			l = append(l, api.Ask{Func: uint8(f)}, api.Ask{Func: uint8(f), Many: 1}, api.Ask{Func: uint8(f), Words: []uint16{1}}, api.Ask{Func: uint8(f), Bits: []bool{true}})
		}
	}
	return l
}

// open is a space in which all of a memory is read, and written where that may be.
func open(m api.Mem) api.Space {
	all := func(n int, write bool) []api.Area {
		if n == 0 {
			return nil
		}
		return []api.Area{{Many: n, Read: true, Write: write}}
	}
	return api.Space{Coils: all(len(m.Coils), true), Inputs: all(len(m.Inputs), false), Holding: all(len(m.Holding), true), Words: all(len(m.Words), false)}
}

// areasOf returns a space with those areas in one table alone, from 0 to 3 in the order of api.Space.
func areasOf(table int, l ...api.Area) api.Space {
	s := api.Space{}
	*[]*[]api.Area{&s.Coils, &s.Inputs, &s.Holding, &s.Words}[table] = l
	return s
}

// TestRightAreas: P7.1, areas at the edges of what may be, in each table of ten addresses.
func TestRightAreas(t *testing.T) {
	m := memory(10, 10, 10, 10)
	area := func(at, many int) api.Area { return api.Area{At: at, Many: many, Read: true} }
	for i, x := range []struct {
		l    []api.Area
		want bool
	}{
		{nil, true},
		{[]api.Area{}, true},
		{[]api.Area{area(0, 10)}, true},
		{[]api.Area{area(0, 1)}, true},
		{[]api.Area{area(9, 1)}, true},
		{[]api.Area{area(0, 11)}, false},
		{[]api.Area{area(1, 10)}, false},
		{[]api.Area{area(9, 2)}, false},
		{[]api.Area{area(10, 1)}, false},
		{[]api.Area{area(11, 1)}, false},
		{[]api.Area{area(-1, 1)}, false},
		{[]api.Area{area(-1, 5)}, false},
		{[]api.Area{area(0, 0)}, false},
		{[]api.Area{area(3, 0)}, false},
		{[]api.Area{area(10, 0)}, false},
		{[]api.Area{area(3, -1)}, false},
		{[]api.Area{area(0, 4), area(4, 6)}, true},
		{[]api.Area{area(0, 4), area(5, 5)}, true},
		{[]api.Area{area(0, 4), area(3, 5)}, false},
		{[]api.Area{area(0, 4), area(0, 4)}, false},
		{[]api.Area{area(4, 4), area(0, 4)}, false},
		{[]api.Area{area(0, 1), area(1, 1), area(2, 1), area(9, 1)}, true},
		{[]api.Area{area(0, 1), area(5, 1), area(2, 1)}, false},
		{[]api.Area{area(0, 1), area(5, 1), area(6, 5)}, false},
		{[]api.Area{area(0, 8), area(2, 1), area(8, 1)}, false},
		{[]api.Area{area(2, 4), area(6, -4), area(2, 4)}, false},
		{[]api.Area{area(0, math.MaxInt)}, false},
		{[]api.Area{area(1, math.MaxInt)}, false},
		{[]api.Area{area(9, math.MaxInt-8)}, false},
		{[]api.Area{area(math.MaxInt, math.MaxInt)}, false},
		{[]api.Area{area(math.MaxInt, 1)}, false},
		{[]api.Area{area(math.MinInt, math.MaxInt)}, false},
		{[]api.Area{area(math.MinInt, 1)}, false},
		{[]api.Area{area(0, math.MinInt)}, false},
		{[]api.Area{area(0, 1), area(1, math.MaxInt)}, false},
	} {
		for table := range 4 {
			if got := model.Right(areasOf(table, x.l...), m); got != x.want {
				t.Errorf("areas %d in table %d: %t", i, table, got)
			}
			if got := model.Right(areasOf(table, x.l...), api.Mem{}); got != (len(x.l) == 0) {
				t.Errorf("areas %d in table %d, which is empty: %t", i, table, got)
			}
		}
	}
}

// TestRightWrites: P7.1, coils and holding registers may be written in any way, inputs and input registers in none; all may be whole, or neither read nor written.
func TestRightWrites(t *testing.T) {
	m := memory(10, 10, 10, 10)
	for table := range 4 {
		for i := range 8 {
			read, write, whole := i&1 == 1, i&2 == 2, i&4 == 4
			want := !write || table == 0 || table == 2
			for at := range 3 {
				l := []api.Area{{At: 0, Many: 2}, {At: 2, Many: 2}, {At: 4, Many: 2}}
				l[at].Read, l[at].Write, l[at].Whole = read, write, whole
				if got := model.Right(areasOf(table, l...), m); got != want {
					t.Errorf("table %d, read %t, write %t, whole %t: %t", table, read, write, whole, got)
				}
			}
		}
	}
}

// TestRightLengths: P7.1, a table of 65536 addresses may be, one more may not, whether an area has it or not; an area is held against its own table.
func TestRightLengths(t *testing.T) {
	for table := range 4 {
		for _, n := range []int{0, 1, 65535, 65536, 65537, 70000} {
			lengths := [4]int{3, 3, 3, 3}
			lengths[table] = n
			m := memory(lengths[0], lengths[1], lengths[2], lengths[3])
			if got := model.Right(api.Space{}, m); got != (n <= 65536) {
				t.Errorf("%d addresses in table %d: %t", n, table, got)
			}
			if got := model.Right(open(m), m); got != (n <= 65536) {
				t.Errorf("%d addresses in table %d, with an area: %t", n, table, got)
			}
			if n < 65536 && model.Right(areasOf(table, api.Area{At: n, Many: 1}), m) {
				t.Errorf("%d addresses in table %d, and an area behind them", n, table)
			}
			if n > 3 && !model.Right(areasOf(table, api.Area{At: min(n, 65536) - 1, Many: 1}), m) && n <= 65536 {
				t.Errorf("%d addresses in table %d: its last one", n, table)
			}
		}
	}
}

// TestRightPlain: P7.1, spaces and memories of all sorts, against a plain reading of the chapter.
func TestRightPlain(t *testing.T) {
	count := [2]int{}
	for seed := range 4000 {
		s, m := anyPair(seed)
		if seed%2 == 1 {
			s, m = rightPair(seed)
			// One table may be too short now.
			if seed%4 == 1 && len(m.Holding) > 0 {
				m.Holding = m.Holding[:len(m.Holding)-1]
			}
		}
		want := plainRight(s, m)
		if got := model.Right(s, m); got != want {
			t.Fatalf("Right(%v, %v) = %t", s, m, got)
		}
		if want {
			count[0]++
		} else {
			count[1]++
		}
	}
	if count[0] < 500 || count[1] < 500 {
		t.Error("too few of one sort were tried:", count)
	}
}

// TestSame: P7.1, a difference in any one table shows; nil is the same as empty (R6).
func TestSame(t *testing.T) {
	whole := func() api.Mem {
		return api.Mem{Coils: []bool{true, false}, Inputs: []bool{false, true}, Holding: []uint16{1, 256}, Words: []uint16{2, 3}}
	}
	if !model.Same(whole(), whole()) || !model.Same(api.Mem{}, api.Mem{}) {
		t.Error("not the same as itself")
	}
	if !model.Same(api.Mem{Coils: []bool{}, Holding: []uint16{}}, api.Mem{Inputs: []bool{}, Words: []uint16{}}) {
		t.Error("empty and nil differ")
	}
	for i, change := range []func(*api.Mem){
		func(m *api.Mem) { m.Coils[0] = false },
		func(m *api.Mem) { m.Coils[1] = true },
		func(m *api.Mem) { m.Inputs[0] = true },
		func(m *api.Mem) { m.Inputs[1] = false },
		func(m *api.Mem) { m.Holding[0] = 257 },
		func(m *api.Mem) { m.Holding[1] = 0 },
		func(m *api.Mem) { m.Words[0] = 258 },
		func(m *api.Mem) { m.Words[1] = 2 },
		func(m *api.Mem) { m.Coils = m.Coils[:1] },
		func(m *api.Mem) { m.Inputs = m.Inputs[:1] },
		func(m *api.Mem) { m.Holding = m.Holding[:1] },
		func(m *api.Mem) { m.Words = m.Words[:1] },
		func(m *api.Mem) { m.Coils = nil },
		func(m *api.Mem) { m.Inputs = nil },
		func(m *api.Mem) { m.Holding = nil },
		func(m *api.Mem) { m.Words = nil },
		func(m *api.Mem) { m.Coils = append(m.Coils, false) },
		func(m *api.Mem) { m.Inputs = append(m.Inputs, false) },
		func(m *api.Mem) { m.Holding = append(m.Holding, 0) },
		func(m *api.Mem) { m.Words = append(m.Words, 0) },
		func(m *api.Mem) { m.Coils, m.Inputs = m.Inputs, m.Coils },
		func(m *api.Mem) { m.Holding, m.Words = m.Words, m.Holding },
	} {
		m := whole()
		change(&m)
		if model.Same(m, whole()) || model.Same(whole(), m) {
			t.Errorf("change %d does not show", i)
		}
	}
	long, other := memory(70000, 0, 70000, 0), memory(70000, 0, 70000, 0)
	if !model.Same(long, other) {
		t.Error("long tables are not the same as themselves")
	}
	other.Holding[69999]++
	if model.Same(long, other) {
		t.Error("the last register does not show")
	}
}

// example is the chapter's: holding registers of which four are read, and four written as a whole; ten coils.
func example() (api.Space, api.Mem) {
	return api.Space{
		Coils:   []api.Area{{At: 0, Many: 10, Read: true, Write: true}},
		Holding: []api.Area{{At: 0, Many: 4, Read: true}, {At: 4, Many: 4, Write: true, Whole: true}},
	}, api.Mem{Coils: []bool{true, false, false, false, false, false, false, true, false, true}, Holding: []uint16{1, 2, 3, 4, 5, 6, 7, 8}}
}

// TestExamples: P7.1 to P7.3, the chapter's examples, as fields and as bytes.
func TestExamples(t *testing.T) {
	s, m := example()
	for _, x := range []struct {
		a       api.Ask
		wrong   uint8
		want    []byte
		holding []uint16
	}{
		{api.Ask{Func: 16, At: 4, Many: 4, Words: []uint16{9, 8, 7, 6}}, 0, []byte{16, 0, 4, 0, 4}, []uint16{1, 2, 3, 4, 9, 8, 7, 6}},
		{api.Ask{Func: 16, At: 4, Many: 2, Words: []uint16{9, 8}}, 2, []byte{144, 2}, m.Holding},
		{api.Ask{Func: 3, At: 2, Many: 4}, 2, []byte{131, 2}, m.Holding},
		{api.Ask{Func: 3, At: 2, Many: 2}, 0, []byte{3, 4, 0, 3, 0, 4}, m.Holding},
		{api.Ask{Func: 1, Many: 10}, 0, []byte{1, 2, 129, 2}, m.Holding},
	} {
		if got := model.Check(s, x.a); got != x.wrong {
			t.Errorf("Check(%v) = %d", x.a, got)
		}
		n, r := model.Do(s, m, x.a)
		if b, e := reply.Bytes(r); e != api.OK || !bytes.Equal(b, x.want) || !slices.Equal(n.Holding, x.holding) || !slices.Equal(n.Coils, m.Coils) {
			t.Errorf("Do(%v) = %v, %v", x.a, n, r)
		}
		pdu, _ := ask.Bytes(x.a)
		n, b := model.Serve(s, m, pdu)
		if !bytes.Equal(b, x.want) || !slices.Equal(n.Holding, x.holding) || !slices.Equal(n.Coils, m.Coils) {
			t.Errorf("Serve(%v) = %v, %v", pdu, n, b)
		}
	}
}

// TestCheckTables: P7.1, which table each function reads, and writes: where only one is open, only its functions have nothing wrong.
func TestCheckTables(t *testing.T) {
	asks := []api.Ask{
		{Func: 1, At: 2, Many: 3}, {Func: 2, At: 2, Many: 3}, {Func: 3, At: 2, Many: 3}, {Func: 4, At: 2, Many: 3},
		{Func: 5, At: 2, Bits: []bool{true}}, {Func: 6, At: 2, Words: []uint16{1}},
		{Func: 15, At: 2, Many: 3, Bits: make([]bool, 3)}, {Func: 16, At: 2, Many: 3, Words: make([]uint16, 3)},
		{Func: 23, At: 2, Many: 3, To: 2, Words: make([]uint16, 3)},
	}
	for table := range 4 {
		for i := range 4 {
			read, write := i&1 == 1, i&2 == 2
			may := [][]uint8{{1, 5, 15}, {2}, {3, 6, 16, 23}, {4}}[table]
			for _, a := range asks {
				reads, writes := slices.Contains([]uint8{1, 2, 3, 4, 23}, a.Func), slices.Contains([]uint8{5, 6, 15, 16, 23}, a.Func)
				want := api.ExAt
				if slices.Contains(may, a.Func) && (read || !reads) && (write || !writes) {
					want = 0
				}
				s := areasOf(table, api.Area{At: 2, Many: 3, Read: read, Write: write})
				if got := model.Check(s, a); got != want {
					t.Errorf("table %d, read %t, write %t, function %d: %d", table, read, write, a.Func, got)
				}
			}
		}
	}
}

// TestCheckWhole: P7.1, what is whole is written exactly, by each function that can; it is read in parts.
func TestCheckWhole(t *testing.T) {
	l := []api.Area{{At: 0, Many: 2, Read: true, Write: true}, {At: 2, Many: 3, Read: true, Write: true, Whole: true}, {At: 5, Many: 1, Read: true, Write: true, Whole: true}, {At: 6, Many: 2, Read: true, Write: true}}
	s := api.Space{Coils: l, Holding: l}
	for at := range 9 {
		for n := 1; n < 10; n++ {
			want := api.ExAt
			if at+n <= 2 || at == 2 && n == 3 || at == 5 && n == 1 || at >= 6 && at+n <= 8 {
				want = 0
			}
			words, bits := noise.Words(n), noise.Bits(n)
			asks := []api.Ask{
				{Func: 15, At: uint16(at), Many: uint16(n), Bits: bits},
				{Func: 16, At: uint16(at), Many: uint16(n), Words: words},
				{Func: 23, Many: 8, To: uint16(at), Words: words},
			}
			if n == 1 {
				asks = append(asks, api.Ask{Func: 5, At: uint16(at), Bits: bits}, api.Ask{Func: 6, At: uint16(at), Words: words})
			}
			for _, a := range asks {
				if got := model.Check(s, a); got != want {
					t.Errorf("%d from %d on, function %d: %d", n, at, a.Func, got)
				}
			}
			want = api.ExAt
			if at+n <= 8 {
				want = 0
			}
			if got := model.Check(s, api.Ask{Func: 3, At: uint16(at), Many: uint16(n)}); got != want {
				t.Errorf("%d read from %d on: %d", n, at, got)
			}
		}
	}
}

// TestCheckFirst: P7.1, where areas overlap, which makes a space wrong, the first one that has an address counts, not the last one, nor the lowest.
func TestCheckFirst(t *testing.T) {
	shut, read, write := api.Area{At: 2, Many: 2}, api.Area{At: 0, Many: 9, Read: true}, api.Area{At: 1, Many: 4, Write: true}
	whole := api.Area{At: 0, Many: 6, Write: true, Whole: true}
	reads := func(at, n int) api.Ask { return api.Ask{Func: 3, At: uint16(at), Many: uint16(n)} }
	writes := func(at, n int) api.Ask {
		return api.Ask{Func: 16, At: uint16(at), Many: uint16(n), Words: noise.Words(n)}
	}
	for i, x := range []struct {
		l    []api.Area
		a    api.Ask
		want uint8
	}{
		{[]api.Area{shut, read}, reads(0, 2), 0},
		{[]api.Area{shut, read}, reads(1, 2), 2},
		{[]api.Area{shut, read}, reads(4, 5), 0},
		{[]api.Area{read, shut}, reads(0, 9), 0},
		{[]api.Area{read, write}, writes(1, 1), 2},
		{[]api.Area{write, read}, writes(1, 4), 0},
		{[]api.Area{write, read}, reads(0, 2), 2},
		{[]api.Area{write, whole}, writes(1, 4), 0},
		{[]api.Area{write, whole}, writes(0, 6), 0},
		{[]api.Area{write, whole}, writes(0, 5), 2},
		{[]api.Area{write, whole}, writes(5, 1), 2},
		{[]api.Area{whole, write}, writes(1, 4), 2},
		{[]api.Area{whole, write}, writes(0, 6), 0},
		{[]api.Area{{At: 2, Many: 0, Read: true}, shut, read}, reads(2, 1), 2},
		{[]api.Area{{At: 2, Many: -1}, read}, reads(2, 1), 0},
		{[]api.Area{{At: 3, Many: 0}, read}, reads(3, 1), 0},
	} {
		if got := model.Check(areasOf(2, x.l...), x.a); got != x.want {
			t.Errorf("case %d: %d", i, got)
		}
	}
}

// TestCheckFar: P7.1 and R1, areas and requests at the ends of what there is: no address wraps round.
func TestCheckFar(t *testing.T) {
	area := func(at, many int) api.Area { return api.Area{At: at, Many: many, Read: true, Write: true} }
	for i, x := range []struct {
		area api.Area
		at   uint16
		many uint16
		want uint8
	}{
		{area(0, 65536), 65535, 1, 0},
		{area(0, 65536), 65535, 2, 2},
		{area(0, 65536), 65436, 100, 0},
		{area(0, 65536), 65436, 101, 2},
		{area(0, 65537), 65535, 2, 0},
		{area(0, 65535), 65535, 1, 2},
		{area(65535, 1), 65535, 1, 0},
		{area(65535, 1), 65534, 1, 2},
		{area(-1, 1), 65535, 1, 2},
		{area(-1, 2), 0, 1, 0},
		{area(-1, 2), 0, 2, 2},
		{area(-65536, 1), 0, 1, 2},
		{area(65536, 1), 0, 1, 2},
		{area(0, math.MaxInt), 100, 100, 0},
		{area(5, math.MaxInt), 5, 100, 0},
		{area(5, math.MaxInt), 4, 100, 2},
		{area(math.MaxInt, math.MaxInt), 5, 1, 2},
		{area(math.MaxInt, 1), 5, 1, 2},
		{area(math.MinInt, math.MaxInt), 0, 1, 2},
		{area(math.MinInt, math.MinInt), 0, 1, 2},
		{area(math.MinInt+9, math.MaxInt), 0, 8, 0},
		{area(math.MinInt+9, math.MaxInt), 0, 9, 2},
		{area(0, math.MinInt), 0, 1, 2},
		{area(-5, 10), 0, 5, 0},
		{area(-5, 10), 0, 6, 2},
	} {
		for table, f := range []uint8{1, 2, 3, 4} {
			if got := model.Check(areasOf(table, x.area), api.Ask{Func: f, At: x.at, Many: x.many}); got != x.want {
				t.Errorf("case %d, function %d: %d", i, f, got)
			}
		}
		a := api.Ask{Func: 16, At: x.at, Many: x.many, Words: noise.Words(int(x.many))}
		if got := model.Check(areasOf(2, x.area), a); got != x.want {
			t.Errorf("case %d, written: %d", i, got)
		}
		a = api.Ask{Func: 15, At: x.at, Many: x.many, Bits: noise.Bits(int(x.many))}
		if got := model.Check(areasOf(0, x.area), a); got != x.want {
			t.Errorf("case %d, bits written: %d", i, got)
		}
	}
}

// TestCheckWrong: P7.1, a request that is not right is wrong by its value, wherever it goes to.
func TestCheckWrong(t *testing.T) {
	m := memory(100, 100, 100, 100)
	for _, a := range wrongAsks() {
		if ask.Right(a) {
			t.Fatalf("%v is right", a)
		}
		for i, s := range []api.Space{{}, open(m), areasOf(2, api.Area{At: -1})} {
			if got := model.Check(s, a); got != api.ExValue {
				t.Errorf("function %d, space %d: %d", a.Func, i, got)
			}
		}
	}
}

// TestCheckPlain: P7.1, right and wrong spaces with requests of all functions, against a plain reading of the chapter.
func TestCheckPlain(t *testing.T) {
	asks, count := shortAsks(), [3]int{}
	for seed := range 60 {
		s, _ := rightPair(seed)
		if seed%3 == 0 {
			s, _ = anyPair(seed)
		}
		for _, a := range asks {
			want := plainCheck(s, a)
			if got := model.Check(s, a); got != want {
				t.Fatalf("Check(%v, %v) = %d, want %d", s, a, got, want)
			}
			count[want]++
		}
	}
	if count[0] < 1000 || count[2] < 1000 {
		t.Error("too few of one sort were tried:", count)
	}
}

// TestDoPlain: P7.2, right and wrong spaces with requests of all functions, against a plain reading of the chapter; the reply is right, and fits.
func TestDoPlain(t *testing.T) {
	asks, count := append(shortAsks(), wrongAsks()...), [5]int{}
	for seed := range 60 {
		s, m := rightPair(seed)
		if seed%3 == 0 {
			s, m = anyPair(seed)
		}
		before := copied(m)
		for _, a := range asks {
			want, wantReply := plainDo(s, m, a)
			got, r := model.Do(s, m, a)
			if !equal(got, want) || !reply.Same(r, wantReply) || !reply.Right(r) {
				t.Fatalf("Do(%v, %v, %v) = %v, %v, want %v, %v", s, m, a, got, r, want, wantReply)
			}
			if ask.Right(a) && !reply.Fits(a, r) {
				t.Fatalf("Do(%v, %v, %v): the reply %v doesn't fit", s, m, a, r)
			}
			count[r.Except]++
		}
		if !equal(m, before) {
			t.Fatal("the memory that was handed in has changed")
		}
	}
	if slices.Min([]int{count[0], count[2], count[3], count[4]}) < 100 {
		t.Error("too few of one sort were tried:", count)
	}
}

// TestDoDevice: P7.2, where space and memory are not right, even in another table, a request that is possible has ExDevice, one that is not what is wrong with it.
func TestDoDevice(t *testing.T) {
	m := memory(10, 10, 10, 10)
	asks := []api.Ask{
		{Func: 1, Many: 3}, {Func: 2, Many: 3}, {Func: 3, Many: 3}, {Func: 4, Many: 3}, {Func: 5, Bits: []bool{!m.Coils[0]}},
		{Func: 6, Words: []uint16{m.Holding[0] + 1}}, {Func: 15, Many: 1, Bits: []bool{!m.Coils[0]}},
		{Func: 16, Many: 1, Words: []uint16{m.Holding[0] + 1}}, {Func: 23, Many: 1, Words: []uint16{m.Holding[0] + 1}},
	}
	for i, spoil := range []func(s *api.Space, m *api.Mem){
		func(s *api.Space, m *api.Mem) { s.Coils[0].Many = 11 },
		func(s *api.Space, m *api.Mem) { s.Inputs = append(s.Inputs, api.Area{At: 10, Many: 1}) },
		func(s *api.Space, m *api.Mem) { s.Inputs[0].Write = true },
		func(s *api.Space, m *api.Mem) { s.Holding = append(s.Holding, api.Area{At: 9, Many: 1}) },
		func(s *api.Space, m *api.Mem) { s.Holding = append(s.Holding, api.Area{At: 9}) },
		func(s *api.Space, m *api.Mem) { s.Words[0].Write = true },
		func(s *api.Space, m *api.Mem) { s.Words[0].At, s.Words[0].Many = -1, 11 },
		func(s *api.Space, m *api.Mem) { m.Words = m.Words[:9] },
		func(s *api.Space, m *api.Mem) { m.Holding = nil },
		func(s *api.Space, m *api.Mem) { m.Coils = make([]bool, 65537) },
	} {
		s, wrong := open(m), copied(m)
		spoil(&s, &wrong)
		for _, a := range asks {
			n, r := model.Do(s, wrong, a)
			if !equal(n, wrong) || !reply.Same(r, api.Reply{Func: a.Func, Except: api.ExDevice}) {
				t.Errorf("case %d, function %d: %v", i, a.Func, r)
			}
			a.At = 60000
			n, r = model.Do(s, wrong, a)
			if !equal(n, wrong) || !reply.Same(r, api.Reply{Func: a.Func, Except: api.ExAt}) {
				t.Errorf("case %d, function %d at 60000: %v", i, a.Func, r)
			}
			a.Many = 5000
			n, r = model.Do(s, wrong, a)
			if !equal(n, wrong) || !reply.Same(r, api.Reply{Func: a.Func, Except: api.ExValue}) {
				t.Errorf("case %d, function %d, 5000 of them: %v", i, a.Func, r)
			}
		}
	}
}

// TestDoMost: P7.2, the greatest requests, at both ends of tables of 65536 addresses.
func TestDoMost(t *testing.T) {
	m := memory(65536, 65536, 65536, 65536)
	s := open(m)
	for _, end := range []bool{false, true} {
		for _, a := range []api.Ask{
			{Func: 1, Many: 2000}, {Func: 2, Many: 2000}, {Func: 3, Many: 125}, {Func: 4, Many: 125},
			{Func: 1, Many: 1993}, {Func: 2, Many: 1}, {Func: 5, Bits: []bool{!m.Coils[65535]}}, {Func: 6, Words: []uint16{1}},
			{Func: 15, Many: 1968, Bits: noise.Bits(1968)}, {Func: 16, Many: 123, Words: noise.Words(123)},
			{Func: 23, Many: 125, Words: noise.Words(121), To: 60000}, {Func: 23, Many: 125, Words: noise.Words(121), To: 65415},
		} {
			if end {
				a.At = uint16(65536 - max(1, int(a.Many)))
			}
			want, wantReply := plainDo(s, m, a)
			got, r := model.Do(s, m, a)
			if r.Except != 0 || !equal(got, want) || !reply.Same(r, wantReply) {
				t.Errorf("function %d from %d on: %v", a.Func, a.At, r)
			}
		}
	}
}

// spoiled turns all that results have into something else, up to their capacity.
func spoiled(m api.Mem, r api.Reply, b []byte) {
	for _, l := range [][]bool{m.Coils, m.Inputs, r.Bits} {
		l = l[:cap(l)]
		for i := range l {
			l[i] = !l[i]
		}
	}
	for _, l := range [][]uint16{m.Holding, m.Words, r.Words} {
		l = l[:cap(l)]
		for i := range l {
			l[i]++
		}
	}
	b = b[:cap(b)]
	for i := range b {
		b[i]++
	}
}

// roomy is a memory whose tables have spare capacity, all in one piece of bits and one of words.
func roomy() ([]bool, []uint16, api.Mem) {
	bits, words := noise.Bits(60), noise.Words(60)
	return bits, words, api.Mem{Coils: bits[:20], Inputs: bits[20:40], Holding: words[:20], Words: words[20:40]}
}

// checkOwn holds what Do and Serve answer to a request against what is handed in, where nothing is wrong with space and memory, or something.
func checkOwn(t *testing.T, a api.Ask, wrong bool) {
	t.Helper()
	bits, words, m := roomy()
	s := open(m)
	s.Words[0].Write = wrong
	pdu, _ := ask.Bytes(a)
	pdu = append(pdu, 77)[:len(pdu)]
	want, wantReply := plainDo(s, m, a)
	keptBits, keptWords, keptPDU := slices.Clone(bits), slices.Clone(words), slices.Clone(pdu[:len(pdu)+1])
	askBits, askWords, coils, holding := slices.Clone(a.Bits), slices.Clone(a.Words), slices.Clone(s.Coils), slices.Clone(s.Holding)
	n, r := model.Do(s, m, a)
	if !equal(n, want) || !reply.Same(r, wantReply) {
		t.Fatalf("Do(%v) = %v, %v", a, n, r)
	}
	// One part after the other is spoiled: the others must stay as they are.
	spoiled(api.Mem{}, r, nil)
	if !equal(n, want) {
		t.Fatalf("Do(%v): the reply is in the memory", a)
	}
	spoiled(api.Mem{Coils: n.Coils, Holding: n.Holding}, api.Reply{}, nil)
	if !slices.Equal(n.Inputs, want.Inputs) || !slices.Equal(n.Words, want.Words) {
		t.Fatalf("Do(%v): tables share memory", a)
	}
	spoiled(api.Mem{Inputs: n.Inputs, Words: n.Words}, api.Reply{}, nil)
	if !slices.Equal(bits, keptBits) || !slices.Equal(words, keptWords) {
		t.Fatalf("Do(%v): the memory that was handed in has changed", a)
	}
	n, b := model.Serve(s, m, pdu)
	spoiled(n, api.Reply{}, b)
	if !slices.Equal(bits, keptBits) || !slices.Equal(words, keptWords) || !slices.Equal(pdu[:len(pdu)+1], keptPDU) {
		t.Fatalf("%v: what was handed in has changed", a)
	}
	if !slices.Equal(a.Bits, askBits) || !slices.Equal(a.Words, askWords) || !slices.Equal(s.Coils, coils) || !slices.Equal(s.Holding, holding) {
		t.Fatalf("%v: the request or the space has changed", a)
	}
}

// TestOwnMemory: P7.2, P7.3 and R3, what is handed in isn't changed, not even its spare capacity, and results share nothing with it, nor with one another.
func TestOwnMemory(t *testing.T) {
	for _, a := range append(shortAsks(), api.Ask{Func: 9}, api.Ask{Func: 3}, api.Ask{Func: 6, At: 500, Words: []uint16{1}}) {
		checkOwn(t, a, false)
		checkOwn(t, a, true)
	}
}

// TestDoSharedTables: P7.2, tables of a memory that are one piece of memory are not so in the result.
func TestDoSharedTables(t *testing.T) {
	bits, words := make([]bool, 8), make([]uint16, 8)
	m := api.Mem{Coils: bits, Inputs: bits, Holding: words, Words: words}
	n, _ := model.Do(open(m), m, api.Ask{Func: 15, At: 1, Many: 2, Bits: []bool{true, true}})
	if slices.Contains(n.Inputs, true) || !n.Coils[1] || !n.Coils[2] {
		t.Error(n)
	}
	n, _ = model.Do(open(m), m, api.Ask{Func: 6, At: 1, Words: []uint16{7}})
	if n.Words[1] != 0 || n.Holding[1] != 7 {
		t.Error(n)
	}
}

// TestServeErrors: P7.3, bytes that are no request, with right and wrong spaces: the exception, for the lower bits of the first byte, and the memory as it was.
func TestServeErrors(t *testing.T) {
	m := memory(10, 10, 10, 10)
	for _, x := range []struct{ pdu, want []byte }{
		{nil, []byte{128, 1}},
		{[]byte{}, []byte{128, 1}},
		{[]byte{0}, []byte{128, 1}},
		{[]byte{7}, []byte{135, 1}},
		{[]byte{22, 0, 0, 0, 1}, []byte{150, 1}},
		{[]byte{127}, []byte{255, 1}},
		{[]byte{128}, []byte{128, 1}},
		{[]byte{131, 2}, []byte{131, 1}},
		{[]byte{255}, []byte{255, 1}},
		{[]byte{3}, []byte{131, 3}},
		{[]byte{3, 0, 0, 0, 0}, []byte{131, 3}},
		{[]byte{3, 0, 0, 0, 1, 0}, []byte{131, 3}},
		{[]byte{3, 0, 0, 0, 126}, []byte{131, 3}},
		{[]byte{5, 0, 1, 255, 1}, []byte{133, 3}},
		{[]byte{15, 0, 0, 0, 4, 1, 16}, []byte{143, 3}},
		{[]byte{16, 0, 0, 0, 1, 2, 0}, []byte{144, 3}},
		{[]byte{23, 0, 0, 0, 1, 0, 0, 0, 0, 0}, []byte{151, 3}},
		{[]byte{23}, []byte{151, 3}},
	} {
		for i, s := range []api.Space{open(m), {}, areasOf(3, api.Area{At: 99, Many: 99, Write: true})} {
			n, b := model.Serve(s, m, x.pdu)
			if !equal(n, m) || !bytes.Equal(b, x.want) {
				t.Errorf("Serve(%v), space %d: %v", x.pdu, i, b)
			}
		}
	}
	wrong := open(m)
	wrong.Words[0].Many = 11
	for _, x := range []struct{ pdu, want []byte }{
		{[]byte{3, 0, 0, 0, 1}, []byte{131, 4}},
		{[]byte{3, 0, 0, 0, 11}, []byte{131, 2}},
		{[]byte{23, 0, 0, 0, 1, 0, 0, 0, 1, 2, 0, 1}, []byte{151, 4}},
		{[]byte{23, 0, 0, 0, 1, 0, 10, 0, 1, 2, 0, 1}, []byte{151, 2}},
	} {
		if n, b := model.Serve(wrong, m, x.pdu); !equal(n, m) || !bytes.Equal(b, x.want) {
			t.Errorf("Serve(%v), which the space does not fit: %v", x.pdu, b)
		}
	}
}

// TestServePlain: P7.3, the bytes of all requests, and such with a byte changed, cut off or put behind: what Do does, or what ask.Look says.
func TestServePlain(t *testing.T) {
	asks := shortAsks()
	for seed := range 12 {
		s, m := rightPair(seed)
		if seed%3 == 0 {
			s, m = anyPair(seed)
		}
		roll := dice(seed)
		for _, a := range asks {
			right, _ := ask.Bytes(a)
			changed := slices.Clone(right)
			changed[roll(len(changed))] = byte(roll(256))
			for _, pdu := range [][]byte{right, changed, right[:len(right)-1], append(slices.Clone(right), 0)} {
				look, wrong := ask.Look(pdu)
				want, r := plainDo(s, m, look)
				if wrong > 0 {
					want, r = m, api.Reply{Func: look.Func % 128, Except: wrong}
				}
				bytesOf, _ := reply.Bytes(r)
				n, b := model.Serve(s, m, pdu)
				if !equal(n, want) || !bytes.Equal(b, bytesOf) {
					t.Fatalf("Serve(%v, %v, %v) = %v, %v", s, m, pdu, n, b)
				}
			}
		}
	}
}

// TestServeNoise: P7.3 and R1, any bytes get a reply, and only a right one.
func TestServeNoise(t *testing.T) {
	s, m := rightPair(5)
	for n := range 600 {
		b := noise.Bytes(n)
		for f := range 30 {
			if n > 0 {
				b[0] = byte(f)
			}
			_, out := model.Serve(s, m, b)
			if _, e := reply.Parse(out); e != api.OK {
				t.Fatalf("Serve(%v) = %v", b, out)
			}
		}
	}
}

// TestNothingChanged: P7.4, reading changes nothing, and what is rejected changes nothing.
func TestNothingChanged(t *testing.T) {
	for seed := range 30 {
		s, m := rightPair(seed)
		for _, a := range shortAsks() {
			n, r := model.Do(s, m, a)
			if (a.Func <= 4 || r.Except > 0) && !model.Same(n, m) {
				t.Fatalf("Do(%v, %v, %v): changed", s, m, a)
			}
		}
	}
}

// TestWrittenIsRead: P7.4, what is written is read as the same, and nothing else is changed.
func TestWrittenIsRead(t *testing.T) {
	m := memory(40, 40, 40, 40)
	s := open(m)
	for _, a := range shortAsks() {
		if a.Func <= 4 {
			continue
		}
		n, r := model.Do(s, m, a)
		if r.Except > 0 {
			continue
		}
		to := int(a.At)
		if a.Func == 23 {
			to = int(a.To)
		}
		read := api.Ask{Func: 3, At: uint16(to), Many: uint16(len(a.Words))}
		if len(a.Bits) > 0 {
			read = api.Ask{Func: 1, At: uint16(to), Many: uint16(len(a.Bits))}
		}
		again, r := model.Do(s, n, read)
		if !slices.Equal(r.Words, a.Words) || !slices.Equal(r.Bits[:len(a.Bits)], a.Bits) || !equal(again, n) {
			t.Fatalf("%v: %v is read", a, r)
		}
		copy(n.Coils[to:], m.Coils[to:to+len(a.Bits)])
		copy(n.Holding[to:], m.Holding[to:to+len(a.Words)])
		if !equal(n, m) {
			t.Fatalf("%v: something else is changed", a)
		}
	}
}

// TestExchange: P7.4, function 23 is function 16 and function 3 after it, where both are possible; otherwise neither is done.
func TestExchange(t *testing.T) {
	count := [2]int{}
	for seed := range 40 {
		s, m := rightPair(seed)
		for _, a := range shortAsks() {
			if a.Func != 23 {
				continue
			}
			write := api.Ask{Func: 16, At: a.To, Many: uint16(len(a.Words)), Words: a.Words}
			read := api.Ask{Func: 3, At: a.At, Many: a.Many}
			n, r := model.Do(s, m, a)
			if model.Check(s, write) > 0 || model.Check(s, read) > 0 {
				if !equal(n, m) || !reply.Same(r, api.Reply{Func: 23, Except: api.ExAt}) {
					t.Fatalf("Do(%v, %v, %v) = %v, %v", s, m, a, n, r)
				}
				count[1]++
				continue
			}
			between, _ := model.Do(s, m, write)
			want, wantReply := model.Do(s, between, read)
			if !equal(n, want) || r.Func != 23 || !slices.Equal(r.Words, wantReply.Words) {
				t.Fatalf("Do(%v, %v, %v) = %v, %v", s, m, a, n, r)
			}
			count[0]++
		}
	}
	if count[0] < 100 || count[1] < 100 {
		t.Error("too few of one sort were tried:", count)
	}
}

// TestManyAreas: P7.1 and P7.2, as many areas as there are addresses.
func TestManyAreas(t *testing.T) {
	m := memory(65536, 0, 65536, 0)
	s := api.Space{}
	for at := range 65536 {
		s.Coils = append(s.Coils, api.Area{At: at, Many: 1, Read: true, Write: true, Whole: at%3 == 0})
		s.Holding = append(s.Holding, api.Area{At: at, Many: 1, Read: at != 65000, Write: true})
	}
	if !model.Right(s, m) {
		t.Fatal("not right")
	}
	for _, x := range []struct {
		a    api.Ask
		want uint8
	}{
		{api.Ask{Func: 1, At: 63536, Many: 2000}, 0},
		{api.Ask{Func: 1, At: 63537, Many: 2000}, 2},
		{api.Ask{Func: 15, At: 1, Many: 2, Bits: make([]bool, 2)}, 0},
		{api.Ask{Func: 15, At: 1, Many: 3, Bits: make([]bool, 3)}, 2},
		{api.Ask{Func: 5, At: 3, Bits: make([]bool, 1)}, 0},
		{api.Ask{Func: 3, At: 64875, Many: 125}, 0},
		{api.Ask{Func: 3, At: 64876, Many: 125}, 2},
		{api.Ask{Func: 3, At: 65001, Many: 125}, 0},
	} {
		if _, r := model.Do(s, m, x.a); r.Except != x.want {
			t.Errorf("function %d, %d from %d on: %d", x.a.Func, x.a.Many, x.a.At, r.Except)
		}
	}
}
