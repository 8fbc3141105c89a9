package reply

import (
	"saucier/api"
	"saucier/ask"
)

// lit is the number by which function 5 says that a bit is on; 0 says that it is off.
const lit = 65280

// kind is one kind of replies.
type kind interface {
	// right reports whether a reply has the fields of this kind, and no others.
	right(r api.Reply) bool
	// write returns the bytes of a right reply.
	write(r api.Reply) []byte
	// read returns the reply with these bytes, and whether they are cut as those of this kind are; what it says may still not be right. There is at least one byte.
	read(b []byte) (api.Reply, bool)
}

type (
	exception   struct{}
	bitsRead    struct{}
	wordsRead   struct{}
	bitWritten  struct{}
	wordWritten struct{}
	listWritten struct{ most uint16 } // how great Many may be
)

// kindOf returns the kind of the replies that begin with this byte.
func kindOf(first uint8) (kind, bool) {
	if first >= failed {
		return exception{}, true
	}
	switch first {
	case api.ReadCoils, api.ReadInputs:
		return bitsRead{}, true
	case api.ReadHolding, api.ReadWords, api.Exchange:
		return wordsRead{}, true
	case api.WriteCoil:
		return bitWritten{}, true
	case api.WriteWord:
		return wordWritten{}, true
	case api.WriteCoils:
		return listWritten{api.MaxWriteBits}, true
	case api.WriteWords:
		return listWritten{api.MaxWriteWords}, true
	}
	return nil, false
}

// kindFor returns the only kind that r, if it is right, can be of.
func kindFor(r api.Reply) (kind, bool) {
	if r.Except > 0 {
		return exception{}, true
	}
	return kindOf(r.Func)
}

func (exception) right(r api.Reply) bool {
	return r.Except >= api.ExFunc && r.Except <= api.ExDevice && Same(r, Wrong(r.Func, r.Except))
}

func (exception) write(r api.Reply) []byte { return []byte{r.Func + failed, r.Except} }

func (exception) read(b []byte) (api.Reply, bool) {
	if len(b) != 2 {
		return api.Reply{}, false
	}
	return Wrong(b[0], b[1]), true
}

func (bitsRead) right(r api.Reply) bool {
	n := len(r.Bits)
	return n >= 8 && n <= api.MaxReadBits && n%8 == 0 && Same(r, api.Reply{Func: r.Func, Bits: r.Bits})
}

func (bitsRead) write(r api.Reply) []byte { return list(r.Func, ask.Pack(r.Bits)) }

func (bitsRead) read(b []byte) (api.Reply, bool) {
	packed, ok := listed(b)
	if !ok {
		return api.Reply{}, false
	}
	return api.Reply{Func: b[0], Bits: ask.Unpack(packed)}, true
}

func (wordsRead) right(r api.Reply) bool {
	n := len(r.Words)
	return n >= 1 && n <= api.MaxReadWords && Same(r, api.Reply{Func: r.Func, Words: r.Words})
}

func (wordsRead) write(r api.Reply) []byte { return list(r.Func, put(nil, r.Words...)) }

func (wordsRead) read(b []byte) (api.Reply, bool) {
	rest, ok := listed(b)
	if !ok || len(rest)%2 != 0 {
		return api.Reply{}, false
	}
	words := make([]uint16, len(rest)/2)
	for i := range words {
		words[i] = number(rest[2*i:])
	}
	return api.Reply{Func: b[0], Words: words}, true
}

func (bitWritten) right(r api.Reply) bool {
	return len(r.Bits) == 1 && Same(r, api.Reply{Func: r.Func, At: r.At, Bits: r.Bits})
}

func (bitWritten) write(r api.Reply) []byte {
	if r.Bits[0] {
		return put([]byte{r.Func}, r.At, lit)
	}
	return put([]byte{r.Func}, r.At, 0)
}

func (bitWritten) read(b []byte) (api.Reply, bool) {
	at, n, ok := pair(b)
	if !ok || n != lit && n != 0 {
		return api.Reply{}, false
	}
	return api.Reply{Func: b[0], At: at, Bits: []bool{n == lit}}, true
}

func (wordWritten) right(r api.Reply) bool {
	return len(r.Words) == 1 && Same(r, api.Reply{Func: r.Func, At: r.At, Words: r.Words})
}

func (wordWritten) write(r api.Reply) []byte { return put([]byte{r.Func}, r.At, r.Words[0]) }

func (wordWritten) read(b []byte) (api.Reply, bool) {
	at, word, ok := pair(b)
	if !ok {
		return api.Reply{}, false
	}
	return api.Reply{Func: b[0], At: at, Words: []uint16{word}}, true
}

func (k listWritten) right(r api.Reply) bool {
	return r.Many >= 1 && r.Many <= k.most && Same(r, api.Reply{Func: r.Func, At: r.At, Many: r.Many})
}

func (listWritten) write(r api.Reply) []byte { return put([]byte{r.Func}, r.At, r.Many) }

func (listWritten) read(b []byte) (api.Reply, bool) {
	at, many, ok := pair(b)
	if !ok {
		return api.Reply{}, false
	}
	return api.Reply{Func: b[0], At: at, Many: many}, true
}
