package rtu_test

import (
	"bytes"
	"slices"
	"testing"

	"saucier/api"
	"saucier/ask"
	"saucier/crc"
	"saucier/noise"
	"saucier/reply"
	"saucier/rtu"
)

// plainFrame is the chapter's frame: the unit, the PDU, and the check sum of all that.
func plainFrame(unit uint8, pdu []byte) []byte {
	return crc.Put(slices.Concat([]byte{unit}, pdu))
}

// known are frames whose bytes are written out: the chapter's, and others that are known.
func known() []struct {
	unit       uint8
	pdu, frame []byte
} {
	return []struct {
		unit       uint8
		pdu, frame []byte
	}{
		{1, []byte{3, 0, 0, 0, 10}, []byte{1, 3, 0, 0, 0, 10, 197, 205}},
		{1, []byte{131, 2}, []byte{1, 131, 2, 192, 241}},
		{2, []byte{7}, []byte{2, 7, 65, 18}},
		{'1', []byte("23456789"), []byte("123456789\x37\x4b")},
	}
}

// TestKnown: P4.1, frames that are known, both ways.
func TestKnown(t *testing.T) {
	for _, x := range known() {
		if b, e := rtu.Bytes(x.unit, x.pdu); e != api.OK || !bytes.Equal(b, x.frame) {
			t.Errorf("Bytes(%d, %v) = %v, %d", x.unit, x.pdu, b, e)
		}
		if unit, pdu, e := rtu.Parse(x.frame); e != api.OK || unit != x.unit || !bytes.Equal(pdu, x.pdu) {
			t.Errorf("Parse(%v) = %d, %v, %d", x.frame, unit, pdu, e)
		}
	}
}

// TestBytes: P4.1, every unit, with PDUs of all lengths at and about the limits.
func TestBytes(t *testing.T) {
	for unit := range 256 {
		for _, n := range []int{0, 1, 2, 3, 125, 252, 253, 254, 255, 256, 257, 258, 509, 512, 65536 + 1, 65536 + 253} {
			pdu := noise.Bytes(n)
			b, e := rtu.Bytes(uint8(unit), pdu)
			if unit < 1 || unit > 247 || n < 1 || n > 253 {
				if e != api.ErrArg || len(b) != 0 {
					t.Fatalf("Bytes of unit %d and %d bytes: %d bytes, error %d", unit, n, len(b), e)
				}
				continue
			}
			if e != api.OK || !bytes.Equal(b, plainFrame(uint8(unit), pdu)) {
				t.Fatalf("Bytes of unit %d and %d bytes: %v, error %d", unit, n, b, e)
			}
		}
	}
	if b, e := rtu.Bytes(1, nil); e != api.ErrArg || len(b) != 0 {
		t.Error(b, e)
	}
}

// plainError is the error that the chapter has for bytes.
func plainError(b []byte) api.Errno {
	if len(b) < 4 || len(b) > 256 {
		return api.ErrFrame
	}
	n := len(b) - 2
	if sum := crc.Sum(b[:n]); b[n] != byte(sum%256) || b[n+1] != byte(sum/256) {
		return api.ErrCheck
	}
	if b[0] < 1 || b[0] > 247 {
		return api.ErrFrame
	}
	return api.OK
}

// check holds Parse, and Reply of some units, against the chapter for some bytes.
func check(t *testing.T, b []byte) {
	t.Helper()
	before := bytes.Clone(b)
	want := plainError(b)
	unit, pdu, e := rtu.Parse(b)
	switch {
	case e != want || e != api.OK && (unit != 0 || len(pdu) != 0):
		t.Fatalf("Parse(%v) = %d, %v, %d, want error %d", b, unit, pdu, e, want)
	case e == api.OK && (unit != b[0] || !bytes.Equal(pdu, b[1:len(b)-2])):
		t.Fatalf("Parse(%v) = %d, %v", b, unit, pdu)
	}
	for _, of := range []uint8{0, 1, 2, 247, 248, 255} {
		r, err := rtu.Reply(of, b)
		wantReply, wantErr := api.Reply{}, want
		switch {
		case want == api.OK && of != b[0]:
			wantErr = api.ErrFrame
		case want == api.OK:
			wantReply, wantErr = reply.Parse(b[1 : len(b)-2])
		}
		if err != wantErr || !reply.Same(r, wantReply) {
			t.Fatalf("Reply(%d, %v) = %v, %d, want %v, %d", of, b, r, err, wantReply, wantErr)
		}
	}
	if !bytes.Equal(b, before) {
		t.Fatalf("%v has changed to %v", before, b)
	}
}

// TestParseLengths: P4.1 and P4.2, all lengths up to some above the greatest one, and some far above, each with a right check sum and with wrong ones, from units and from others.
func TestParseLengths(t *testing.T) {
	lengths := []int{510, 512, 513, 65536, 65536 + 4, 65536 + 256}
	for n := range 300 {
		lengths = append(lengths, n)
	}
	for _, n := range lengths {
		for _, unit := range []byte{0, 1, 2, 247, 248, 255} {
			b := noise.Bytes(n)
			if n > 0 {
				b[0] = unit
			}
			check(t, b)
			if n < 2 {
				continue
			}
			b = crc.Put(b[:n-2])
			check(t, b)
			check(t, noise.Inverted(b, 8*n-1, 1))
			check(t, noise.Inverted(b, 8*n-16, 1))
			check(t, noise.Inverted(b, 0, 1))
			b[n-2], b[n-1] = b[n-1], b[n-2] // the upper half first
			check(t, b)
		}
	}
}

// TestParseUnits: P4.1, all first bytes.
func TestParseUnits(t *testing.T) {
	for unit := range 256 {
		check(t, crc.Put([]byte{byte(unit), 7}))
		check(t, crc.Put([]byte{byte(unit), 131, 2}))
		check(t, []byte{byte(unit), 131, 2, 192, 241})
	}
}

// TestParseErrors: P4.1, of several errors the first one: no length, then no check sum, then no unit.
func TestParseErrors(t *testing.T) {
	for _, x := range []struct {
		b    []byte
		want api.Errno
	}{
		{nil, api.ErrFrame},
		{[]byte{}, api.ErrFrame},
		{[]byte{1}, api.ErrFrame},
		{[]byte{1, 2, 3}, api.ErrFrame},
		{crc.Put(nil), api.ErrFrame},
		{crc.Put([]byte{1}), api.ErrFrame},
		{make([]byte, 257), api.ErrFrame},
		{crc.Put(append([]byte{1}, make([]byte, 254)...)), api.ErrFrame},
		{[]byte{1, 2, 3, 4}, api.ErrCheck},
		{[]byte{0, 2, 3, 4}, api.ErrCheck},
		{[]byte{248, 2, 3, 4}, api.ErrCheck},
		{make([]byte, 256), api.ErrCheck},
		{[]byte{1, 3, 0, 0, 0, 10, 205, 197}, api.ErrCheck},
		{[]byte{2, 7, 65, 18, 1}, api.ErrCheck}, // (with 0 behind, it would be that of 2, 7, 65)
		{crc.Put([]byte{0, 7}), api.ErrFrame},
		{crc.Put([]byte{248, 7}), api.ErrFrame},
		{crc.Put([]byte{255, 7}), api.ErrFrame},
	} {
		if unit, pdu, e := rtu.Parse(x.b); e != x.want || unit != 0 || len(pdu) != 0 {
			t.Errorf("Parse(%v) = %d, %v, %d, want error %d", x.b, unit, pdu, e, x.want)
		}
		if r, e := rtu.Reply(1, x.b); e != x.want || !reply.Same(r, api.Reply{}) {
			t.Errorf("Reply(1, %v) = %v, %d, want error %d", x.b, r, e, x.want)
		}
	}
}

// asks returns right requests of all functions, the longest ones among them, and some that are not right.
func asks() []api.Ask {
	return []api.Ask{
		{Func: 1, At: 1, Many: 1}, {Func: 2, At: 258, Many: 2000}, {Func: 3, Many: 10}, {Func: 4, At: 65535, Many: 125},
		{Func: 5, At: 172, Bits: []bool{true}}, {Func: 6, At: 1, Words: []uint16{772}},
		{Func: 15, At: 19, Many: 1968, Bits: noise.Bits(1968)}, {Func: 16, Many: 123, Words: noise.Words(123)},
		{Func: 23, Many: 1, Words: []uint16{1}}, {Func: 23, At: 1, Many: 125, To: 2, Words: noise.Words(121)},
		{}, {Func: 3}, {Func: 3, Many: 126}, {Func: 4, Many: 1, To: 1}, {Func: 7}, {Func: 131, Many: 1}, {Func: 5, Bits: []bool{true, true}},
		{Func: 16, Many: 124, Words: noise.Words(124)}, {Func: 23, Many: 1, Words: noise.Words(122)}, {Func: 3, Many: 1, Words: []uint16{1}},
	}
}

// TestAsk: P4.2, requests of all functions to every unit; what is wrong with a request comes before what is wrong with a unit.
func TestAsk(t *testing.T) {
	longest := 0
	for _, a := range asks() {
		for unit := range 256 {
			var want []byte
			wantErr := api.ErrAsk
			if pdu, e := ask.Bytes(a); e == api.OK {
				want, wantErr = plainFrame(uint8(unit), pdu), api.OK
				if unit < 1 || unit > 247 {
					want, wantErr = nil, api.ErrArg
				}
			}
			b, e := rtu.Ask(uint8(unit), a)
			if e != wantErr || !bytes.Equal(b, want) {
				t.Fatalf("Ask(%d, %v) = %v, %d, want error %d", unit, a, b, e, wantErr)
			}
			longest = max(longest, len(b))
		}
	}
	if longest != 255 { // of a request of 252 bytes: none has more
		t.Errorf("the longest request that was tried has %d bytes", longest)
	}
}

// TestAskExamples: P4.2, the chapter's example, and each error.
func TestAskExamples(t *testing.T) {
	right := api.Ask{Func: 3, Many: 10}
	for _, x := range []struct {
		unit uint8
		a    api.Ask
		b    []byte
		want api.Errno
	}{
		{1, right, []byte{1, 3, 0, 0, 0, 10, 197, 205}, api.OK},
		{0, right, nil, api.ErrArg},
		{248, right, nil, api.ErrArg},
		{255, right, nil, api.ErrArg},
		{1, api.Ask{Func: 3}, nil, api.ErrAsk},
		{0, api.Ask{Func: 3}, nil, api.ErrAsk},
		{248, api.Ask{}, nil, api.ErrAsk},
	} {
		if b, e := rtu.Ask(x.unit, x.a); e != x.want || !bytes.Equal(b, x.b) {
			t.Errorf("Ask(%d, %v) = %v, %d, want error %d", x.unit, x.a, b, e, x.want)
		}
	}
}

// replies returns right replies of all kinds, the longest ones among them.
func replies() []api.Reply {
	return []api.Reply{
		{Func: 3, Except: 2}, {Func: 0, Except: 1}, {Func: 127, Except: 4},
		{Func: 1, Bits: noise.Bits(8)}, {Func: 2, Bits: noise.Bits(2000)},
		{Func: 3, Words: []uint16{258}}, {Func: 4, Words: noise.Words(125)}, {Func: 23, Words: noise.Words(3)},
		{Func: 5, At: 172, Bits: []bool{true}}, {Func: 6, At: 1, Words: []uint16{772}},
		{Func: 15, At: 19, Many: 1968}, {Func: 16, At: 258, Many: 123},
	}
}

// TestReply: P4.2, replies of all kinds from every unit, for it and for others.
func TestReply(t *testing.T) {
	for _, r := range replies() {
		pdu, _ := reply.Bytes(r)
		for unit := range 256 {
			b := plainFrame(uint8(unit), pdu)
			for of := range 256 {
				got, e := rtu.Reply(uint8(of), b)
				if of != unit || unit < 1 || unit > 247 {
					if e != api.ErrFrame || !reply.Same(got, api.Reply{}) {
						t.Fatalf("Reply(%d, ..) of unit %d: %v, %d", of, unit, got, e)
					}
					continue
				}
				if e != api.OK || !reply.Same(got, r) {
					t.Fatalf("Reply(%d, %v) = %v, %d", of, b, got, e)
				}
			}
		}
	}
}

// TestReplyExamples: P4.2, the chapter's example, and each error before those that the chapter names behind it.
func TestReplyExamples(t *testing.T) {
	failed := api.Reply{Func: 3, Except: 2}
	for _, x := range []struct {
		unit uint8
		b    []byte
		r    api.Reply
		want api.Errno
	}{
		{1, []byte{1, 131, 2, 192, 241}, failed, api.OK},
		{2, []byte{1, 131, 2, 192, 241}, api.Reply{}, api.ErrFrame},
		{0, crc.Put([]byte{0, 131, 2}), api.Reply{}, api.ErrFrame},
		{248, crc.Put([]byte{248, 131, 2}), api.Reply{}, api.ErrFrame},
		{2, []byte{1, 131, 2, 192, 240}, api.Reply{}, api.ErrCheck},
		{2, []byte{1, 131, 2}, api.Reply{}, api.ErrFrame},
		{1, crc.Put([]byte{1, 131, 5}), api.Reply{}, api.ErrReply},
		{1, crc.Put([]byte{1, 3}), api.Reply{}, api.ErrReply},
		{1, crc.Put([]byte{1, 3, 0, 0, 0, 10}), api.Reply{}, api.ErrReply}, // a request
		{1, crc.Put([]byte{1, 131, 2, 0}), api.Reply{}, api.ErrReply},
		{2, crc.Put([]byte{1, 131, 5}), api.Reply{}, api.ErrFrame},
		{2, []byte{1, 131, 5, 0, 0}, api.Reply{}, api.ErrCheck},
	} {
		if r, e := rtu.Reply(x.unit, x.b); e != x.want || !reply.Same(r, x.r) {
			t.Errorf("Reply(%d, %v) = %v, %d, want error %d", x.unit, x.b, r, e, x.want)
		}
	}
}

// TestParseOfBytes: P4.3, every unit, and PDUs of every length, come back.
func TestParseOfBytes(t *testing.T) {
	for unit := 1; unit <= 247; unit++ {
		for n := 1; n <= 253; n++ {
			pdu := noise.Bytes(n)
			b, e := rtu.Bytes(uint8(unit), pdu)
			if e != api.OK || len(b) != n+3 {
				t.Fatalf("unit %d, %d bytes: a frame of %d, error %d", unit, n, len(b), e)
			}
			if from, got, e := rtu.Parse(b); e != api.OK || int(from) != unit || !bytes.Equal(got, pdu) {
				t.Fatalf("unit %d, %v: back came %d, %v, error %d", unit, pdu, from, got, e)
			}
		}
	}
}

// TestParseOfAsk: P4.2 and P4.3, a request comes back from its frame.
func TestParseOfAsk(t *testing.T) {
	for _, a := range asks() {
		b, e := rtu.Ask(17, a)
		if e != api.OK {
			continue
		}
		unit, pdu, e := rtu.Parse(b)
		if got, wrong := ask.Parse(pdu); e != api.OK || unit != 17 || wrong != api.OK || !ask.Same(got, a) {
			t.Errorf("%v came back as %v of unit %d, errors %d, %d", a, got, unit, e, wrong)
		}
	}
}

// noReply fails the test unless there is an error, and nothing else, for some bytes.
func noReply(t *testing.T, of uint8, b []byte) {
	t.Helper()
	if unit, pdu, e := rtu.Parse(b); e == api.OK || unit != 0 || len(pdu) != 0 {
		t.Fatalf("Parse(%v) = %d, %v, %d", b, unit, pdu, e)
	}
	if r, e := rtu.Reply(of, b); e == api.OK || !reply.Same(r, api.Reply{}) {
		t.Fatalf("Reply(%d, %v) = %v, %d", of, b, r, e)
	}
}

// TestInvertedBits: P4.3, all ways to invert bits within 16 neighbouring ones, at all places of some frames.
func TestInvertedBits(t *testing.T) {
	for _, x := range known() {
		for burst := range noise.Bursts(x.frame) {
			noReply(t, x.unit, burst)
		}
	}
}

// TestInvertedBitsOfLongFrames: P4.3, some ways to invert bits, at all places of the longest frames.
func TestInvertedBitsOfLongFrames(t *testing.T) {
	patterns := append([]uint16{1, 3, 5, 255, 257, 32769, 40961, 65535}, noise.Words(20)...)
	for _, pdu := range [][]byte{noise.Bytes(253), make([]byte, 253), bytes.Repeat([]byte{255}, 252)} {
		b, _ := rtu.Bytes(247, pdu)
		for at := range 8 * len(b) {
			for _, pattern := range patterns {
				noReply(t, 247, noise.Inverted(b, at, pattern|1))
			}
		}
	}
}

// TestBytesMemory: R3, a frame is in memory of its own, and neither the argument nor its spare capacity changes.
func TestBytesMemory(t *testing.T) {
	whole := []byte{3, 0, 0, 0, 10, 6, 7, 8, 9}
	before := bytes.Clone(whole)
	one, _ := rtu.Bytes(1, whole[:5])
	two, _ := rtu.Bytes(1, whole[:5])
	clear(one[:cap(one)])
	if !bytes.Equal(whole, before) {
		t.Error("the argument has changed:", whole)
	}
	clear(whole)
	if !bytes.Equal(two, []byte{1, 3, 0, 0, 0, 10, 197, 205}) {
		t.Error("the result has changed:", two)
	}
	words := noise.Words(4)
	b, _ := rtu.Ask(1, api.Ask{Func: 16, Many: 2, Words: words[:2]})
	clear(b[:cap(b)])
	if !slices.Equal(words, noise.Words(4)) {
		t.Error("the argument has changed:", words)
	}
}

// TestParseMemory: R3 and the chapter's ways, a PDU is in memory of its own, and has no room behind it that something else is in.
func TestParseMemory(t *testing.T) {
	whole := []byte{1, 3, 0, 0, 0, 10, 197, 205, 6, 7}
	before := bytes.Clone(whole)
	_, one, _ := rtu.Parse(whole[:8])
	_, two, _ := rtu.Parse(whole[:8])
	if cap(one) != len(one) {
		t.Errorf("a PDU of %d bytes has room for %d", len(one), cap(one))
	}
	_ = append(one, 1, 2, 3, 4)
	clear(one[:cap(one)])
	if !bytes.Equal(whole, before) {
		t.Error("the argument has changed:", whole)
	}
	clear(whole)
	if !bytes.Equal(two, []byte{3, 0, 0, 0, 10}) {
		t.Error("the result has changed:", two)
	}
	row := crc.Put([]byte{1, 3, 2, 1, 2})
	r, _ := rtu.Reply(1, row)
	clear(row)
	if len(r.Words) != 1 || r.Words[0] != 258 {
		t.Error("the result has changed:", r)
	}
}
