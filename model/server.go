package model

import (
	"saucier/api"
	"saucier/reply"
)

// server is the four tables.
type server struct {
	coils, inputs  table[bool]
	holding, words table[uint16]
}

// use is the tables that a function reads, and those that it writes; nil where it has nothing to do with bits, or with words.
type use struct {
	bitsRead, bitsWritten   *table[bool]
	wordsRead, wordsWritten *table[uint16]
}

// lay returns a server with these areas, whose tables are those of m, not copies of them.
func lay(s api.Space, m api.Mem) server {
	return server{
		coils:   table[bool]{s.Coils, m.Coils},
		inputs:  table[bool]{s.Inputs, m.Inputs},
		holding: table[uint16]{s.Holding, m.Holding},
		words:   table[uint16]{s.Words, m.Words},
	}
}

// uses returns which tables each function uses.
func (x *server) uses() map[uint8]use {
	return map[uint8]use{
		api.ReadCoils:   {bitsRead: &x.coils},
		api.ReadInputs:  {bitsRead: &x.inputs},
		api.ReadHolding: {wordsRead: &x.holding},
		api.ReadWords:   {wordsRead: &x.words},
		api.WriteCoil:   {bitsWritten: &x.coils},
		api.WriteWord:   {wordsWritten: &x.holding},
		api.WriteCoils:  {bitsWritten: &x.coils},
		api.WriteWords:  {wordsWritten: &x.holding},
		api.Exchange:    {wordsRead: &x.holding, wordsWritten: &x.holding},
	}
}

// allows reports whether a right request reads and writes only where that may be done.
func (x *server) allows(a api.Ask) bool {
	u, at, many, to := x.uses()[a.Func], int(a.At), int(a.Many), target(a)
	return u.bitsRead.readable(at, many) && u.wordsRead.readable(at, many) &&
		u.bitsWritten.writable(to, len(a.Bits)) && u.wordsWritten.writable(to, len(a.Words))
}

// write changes the tables by what an allowed request writes.
func (x *server) write(a api.Ask) {
	u, to := x.uses()[a.Func], target(a)
	u.bitsWritten.write(to, a.Bits)
	u.wordsWritten.write(to, a.Words)
}

// answer returns the reply to an allowed request that has been written: its echo, or what it reads.
func (x *server) answer(a api.Ask) api.Reply {
	if echo, ok := reply.Echo(a); ok {
		return echo
	}
	u, at, many := x.uses()[a.Func], int(a.At), int(a.Many)
	return api.Reply{Func: a.Func, Bits: u.bitsRead.read(at, many, 8), Words: u.wordsRead.read(at, many, 1)}
}

// target returns from where on a request writes, if it does.
func target(a api.Ask) int {
	if a.Func == api.Exchange {
		return int(a.To)
	}
	return int(a.At)
}
