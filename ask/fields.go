package ask

import "saucier/api"

// fields is what the requests of a function have beside Func and At. Where a count is 0 they have none of that, otherwise at least one.
type fields struct {
	many  int  // how great Many may be
	bits  int  // how many bits may be written
	words int  // how many words may be written
	to    bool // words are written to To, and Many is how many are read
}

// table returns the fields of the requests of each function.
func table() map[uint8]fields {
	return map[uint8]fields{
		api.ReadCoils:   {many: api.MaxReadBits},
		api.ReadInputs:  {many: api.MaxReadBits},
		api.ReadHolding: {many: api.MaxReadWords},
		api.ReadWords:   {many: api.MaxReadWords},
		api.WriteCoil:   {bits: 1},
		api.WriteWord:   {words: 1},
		api.WriteCoils:  {many: api.MaxWriteBits, bits: api.MaxWriteBits},
		api.WriteWords:  {many: api.MaxWriteWords, words: api.MaxWriteWords},
		api.Exchange:    {many: api.MaxReadWords, words: api.MaxSwapWords, to: true},
	}
}

// listed reports whether what is written is a list: the number of its bytes stands before it then.
func (f fields) listed() bool { return f.bits > 1 || f.words > 1 }

// fit reports whether a has these fields, and no others.
func (f fields) fit(a api.Ask) bool {
	if !within(int(a.Many), f.many) || !within(len(a.Bits), f.bits) || !within(len(a.Words), f.words) {
		return false
	}
	if f.to {
		return true
	}
	return a.To == 0 && (!f.listed() || len(a.Bits)+len(a.Words) == int(a.Many))
}

// within reports whether n is 1 to most, or 0 if that is the most.
func within(n, most int) bool { return n >= min(1, most) && n <= most }

// write returns the bytes of a request that has these fields.
func (f fields) write(a api.Ask) []byte {
	b := put([]byte{a.Func}, a.At)
	if f.many > 0 {
		b = put(b, a.Many)
	}
	if f.to {
		b = put(b, a.To, uint16(len(a.Words)))
	}
	list := f.list(a)
	if f.listed() {
		b = append(b, byte(len(list)))
	}
	return append(b, list...)
}

// list returns the bytes of what is written.
func (f fields) list(a api.Ask) []byte {
	switch {
	case f.bits == 1 && a.Bits[0]:
		return put(nil, lit)
	case f.bits == 1:
		return put(nil, 0)
	case f.bits > 1:
		return Pack(a.Bits)
	default:
		return put(nil, a.Words...)
	}
}

// read returns the request that these bytes would be of, if they were of one; there is at least one byte.
func (f fields) read(b []byte) api.Ask {
	a := api.Ask{Func: b[0]}
	a.At, b = take(b[1:])
	if f.many > 0 {
		a.Many, b = take(b)
	}
	if f.to {
		a.To, b = take(b)
		_, b = take(b)
	}
	if f.listed() {
		b = b[min(1, len(b)):]
	}
	switch {
	case f.bits == 1:
		n, _ := take(b)
		a.Bits = []bool{n == lit}
	case f.bits > 1:
		bits := Unpack(b)
		a.Bits = bits[:min(int(a.Many), len(bits))]
	case f.words > 0:
		a.Words = numbers(b)
	}
	return a
}

// put appends numbers of two bytes, the upper byte first.
func put(b []byte, l ...uint16) []byte {
	for _, n := range l {
		b = append(b, byte(n>>8), byte(n))
	}
	return b
}

// take returns the number that b begins with, and what follows; 0 and nothing if b is too short.
func take(b []byte) (uint16, []byte) {
	if len(b) < 2 {
		return 0, nil
	}
	return uint16(b[0])<<8 | uint16(b[1]), b[2:]
}

// numbers returns the numbers that b consists of, but for an odd byte at its end.
func numbers(b []byte) []uint16 {
	l := make([]uint16, len(b)/2)
	for i := range l {
		l[i], b = take(b)
	}
	return l
}
