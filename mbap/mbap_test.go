package mbap_test

import (
	"bytes"
	"slices"
	"testing"

	"saucier/api"
	"saucier/mbap"
	"saucier/noise"
)

// same reports whether two frames are the same.
func same(a, b api.Mbap) bool {
	return a.Tx == b.Tx && a.Unit == b.Unit && bytes.Equal(a.PDU, b.PDU)
}

// plainBytes is the chapter's bytes of a right frame.
func plainBytes(x api.Mbap) []byte {
	n := len(x.PDU) + 1
	return slices.Concat([]byte{byte(x.Tx / 256), byte(x.Tx % 256), 0, 0, byte(n / 256), byte(n % 256), x.Unit}, x.PDU)
}

// agrees reports whether b and the bytes of some right frame with a PDU of n bytes are the same as far as both go.
func agrees(b []byte, n int) bool {
	for i, c := range []byte{0, 0, byte((n + 1) / 256), byte((n + 1) % 256)} {
		if len(b) > 2+i && b[2+i] != c {
			return false
		}
	}
	return true
}

// plainPrefix is the chapter's definition of a prefix of a frame, or of more than one.
func plainPrefix(b []byte) bool {
	for n := 1; n <= 253; n++ {
		if agrees(b, n) {
			return true
		}
	}
	return false
}

// plainFirst is the right frame that b begins with, if there is one, and how many bytes it has.
func plainFirst(b []byte) (api.Mbap, int) {
	for n := 1; n <= 253; n++ {
		if len(b) >= 7+n && agrees(b, n) {
			return api.Mbap{Tx: uint16(b[0])*256 + uint16(b[1]), Unit: b[6], PDU: b[7 : 7+n]}, 7 + n
		}
	}
	return api.Mbap{}, 0
}

// plainParse is the right frame with exactly these bytes, if there is one.
func plainParse(b []byte) (api.Mbap, api.Errno) {
	x, n := plainFirst(b)
	if n == 0 || n != len(b) {
		return api.Mbap{}, api.ErrFrame
	}
	return x, api.OK
}

// plainCut is the chapter's Cut, a frame at a time.
func plainCut(b []byte) ([]api.Mbap, int, api.Errno) {
	var l []api.Mbap
	at := 0
	for x, n := plainFirst(b); n > 0; x, n = plainFirst(b[at:]) {
		l, at = append(l, x), at+n
	}
	if !plainPrefix(b[at:]) {
		return l, at, api.ErrFrame
	}
	return l, at, api.OK
}

// check holds Parse and Cut against the chapter for some bytes.
func check(t *testing.T, b []byte) {
	t.Helper()
	old := bytes.Clone(b)
	want, wantErr := plainParse(b)
	if x, e := mbap.Parse(b); e != wantErr || !same(x, want) {
		t.Fatalf("Parse(%v) = %v, %d, want %v, %d", b, x, e, want, wantErr)
	}
	l, n, wantErr := plainCut(b)
	if got, have, e := mbap.Cut(b); e != wantErr || have != n || !slices.EqualFunc(got, l, same) {
		t.Fatalf("Cut(%v) = %v, %d, %d, want %v, %d, %d", b, got, have, e, l, n, wantErr)
	}
	if !bytes.Equal(b, old) {
		t.Fatalf("%v has changed to %v", old, b)
	}
}

// some returns right frames, the shortest and the longest ones among them.
func some() []api.Mbap {
	var l []api.Mbap
	for i, n := range []int{1, 2, 5, 6, 7, 8, 252, 253} {
		tx := []uint16{0, 1, 255, 256, 258, 65280, 65534, 65535}[i]
		unit := []uint8{0, 1, 7, 17, 247, 248, 254, 255}[i]
		l = append(l, api.Mbap{Tx: tx, Unit: unit, PDU: noise.Bytes(n)}, api.Mbap{Tx: 65535 - tx, Unit: 255 - unit, PDU: make([]byte, n)})
	}
	return l
}

// stream returns the bytes of frames, one after the other.
func stream(l []api.Mbap) []byte {
	var b []byte
	for _, x := range l {
		b = append(b, plainBytes(x)...)
	}
	return b
}

// TestKnown: P5.1, frames whose bytes are written out, both ways: the chapter's, and others.
func TestKnown(t *testing.T) {
	for _, x := range []struct {
		frame api.Mbap
		b     []byte
	}{
		{api.Mbap{Tx: 258, Unit: 7, PDU: []byte{3, 0, 1, 0, 2}}, []byte{1, 2, 0, 0, 0, 6, 7, 3, 0, 1, 0, 2}},
		{api.Mbap{Tx: 1, Unit: 255, PDU: []byte{131, 2}}, []byte{0, 1, 0, 0, 0, 3, 255, 131, 2}},
		{api.Mbap{PDU: []byte{0}}, []byte{0, 0, 0, 0, 0, 2, 0, 0}},
		{api.Mbap{Tx: 65535, Unit: 255, PDU: []byte{255}}, []byte{255, 255, 0, 0, 0, 2, 255, 255}},
		{api.Mbap{Tx: 43981, Unit: 1, PDU: bytes.Repeat([]byte{9}, 253)}, append([]byte{171, 205, 0, 0, 0, 254, 1}, bytes.Repeat([]byte{9}, 253)...)},
	} {
		if b, e := mbap.Pack(x.frame); e != api.OK || !bytes.Equal(b, x.b) {
			t.Errorf("Pack(%v) = %v, %d", x.frame, b, e)
		}
		if frame, e := mbap.Parse(x.b); e != api.OK || !same(frame, x.frame) {
			t.Errorf("Parse(%v) = %v, %d", x.b, frame, e)
		}
	}
}

// TestPack: P5.1, PDUs of all lengths up to some above the greatest one, and of such as would be right only by wrapping round.
func TestPack(t *testing.T) {
	lengths := []int{509, 510, 511, 512, 65535, 65536, 65536 + 1, 65536 + 253}
	for n := range 300 {
		lengths = append(lengths, n)
	}
	for _, n := range lengths {
		for _, tx := range []uint16{0, 1, 255, 256, 258, 65535} {
			x := api.Mbap{Tx: tx, Unit: uint8(n), PDU: noise.Bytes(n)}
			b, e := mbap.Pack(x)
			if n < 1 || n > 253 {
				if e != api.ErrArg || len(b) != 0 {
					t.Fatalf("Pack of %d bytes: %d bytes, error %d", n, len(b), e)
				}
				continue
			}
			if e != api.OK || !bytes.Equal(b, plainBytes(x)) {
				t.Fatalf("Pack of %d bytes: %v, error %d", n, b, e)
			}
		}
	}
	if b, e := mbap.Pack(api.Mbap{Tx: 1, Unit: 1}); e != api.ErrArg || len(b) != 0 {
		t.Error(b, e)
	}
}

// TestParseOfPack: P5.1 and P5.3, a frame comes back, with each number, each unit, and each length.
func TestParseOfPack(t *testing.T) {
	back := func(x api.Mbap) {
		b, e := mbap.Pack(x)
		if e != api.OK || len(b) != 7+len(x.PDU) {
			t.Fatalf("%v: %d bytes, error %d", x, len(b), e)
		}
		if got, e := mbap.Parse(b); e != api.OK || !same(got, x) {
			t.Fatalf("%v came back as %v, error %d", x, got, e)
		}
	}
	for tx := range 65536 {
		back(api.Mbap{Tx: uint16(tx), Unit: 1, PDU: []byte{131, 2}})
	}
	for unit := range 256 {
		for n := 1; n <= 253; n++ {
			back(api.Mbap{Tx: 258, Unit: uint8(unit), PDU: noise.Bytes(n)})
		}
	}
}

// TestParseLengths: P5.1, a frame with some bytes less, and with some more, is none.
func TestParseLengths(t *testing.T) {
	for _, x := range some() {
		b := append(plainBytes(x), 0, 0, 0)
		for n := range len(b) {
			got, e := mbap.Parse(b[:n])
			if n == len(b)-3 {
				if e != api.OK || !same(got, x) {
					t.Fatalf("Parse(%v) = %v, %d", b[:n], got, e)
				}
				continue
			}
			if e != api.ErrFrame || !same(got, api.Mbap{}) {
				t.Fatalf("Parse of %d bytes of a frame of %d: %v, %d", n, len(b)-3, got, e)
			}
		}
		if got, e := mbap.Parse(slices.Concat(plainBytes(x), plainBytes(x))); e != api.ErrFrame || !same(got, api.Mbap{}) {
			t.Errorf("Parse of two frames: %v, %d", got, e)
		}
	}
}

// TestParseErrors: P5.1, bytes that are no frame.
func TestParseErrors(t *testing.T) {
	for _, b := range [][]byte{
		nil,
		{},
		{0},
		{0, 0, 0, 0, 0, 2},
		{0, 0, 0, 0, 0, 0},
		{0, 0, 0, 0, 0, 1, 7},              // no PDU
		{0, 0, 0, 0, 0, 2, 7},              // too short
		{0, 0, 0, 0, 0, 2, 7, 3, 3},        // too long
		{0, 0, 0, 0, 0, 1, 7, 3},           // the length without the unit
		{0, 0, 0, 0, 2, 0, 7, 3},           // the lower byte first
		{0, 0, 1, 0, 0, 2, 7, 3},           // no zero
		{0, 0, 0, 1, 0, 2, 7, 3},           // no zero
		[]byte{0, 0, 0, 0, 0, 2, 7, 3}[:7], // what lies behind does not count
		append([]byte{0, 0, 0, 0, 0, 255, 7}, make([]byte, 254)...), // a PDU that is too long
		append([]byte{0, 0, 0, 0, 1, 0, 7}, make([]byte, 255)...),
		append([]byte{0, 0, 0, 0, 1, 2, 7}, make([]byte, 257)...), // its lower byte alone would do
		append([]byte{0, 0, 0, 0, 1, 2, 7}, make([]byte, 1)...),
	} {
		if x, e := mbap.Parse(b); e != api.ErrFrame || !same(x, api.Mbap{}) {
			t.Errorf("Parse(%v) = %v, %d", b, x, e)
		}
	}
}

// TestHeaders: P5.1 and P5.2, each byte at each place of a header, alone and behind other frames, cut off everywhere up to some bytes behind it.
func TestHeaders(t *testing.T) {
	other := []byte{1, 2, 0, 0, 0, 6, 7, 3, 0, 1, 0, 2}
	for _, ahead := range [][]byte{nil, other, slices.Concat(other, other)} {
		for place := range 7 {
			for c := range 256 {
				b := slices.Concat(ahead, other)
				b[len(ahead)+place] = byte(c)
				for n := len(ahead); n <= len(b); n++ {
					check(t, b[:n])
				}
			}
		}
	}
}

// TestLengths: P5.1 and P5.2, all lengths that a header may tell up to some above the greatest one, and some far above, with as many bytes, and some less and more.
func TestLengths(t *testing.T) {
	lengths := []int{509, 510, 512, 514, 768, 65280, 65535}
	for n := range 300 {
		lengths = append(lengths, n)
	}
	for _, n := range lengths {
		b := append([]byte{1, 2, 0, 0, byte(n / 256), byte(n % 256)}, noise.Bytes(n+10)...)
		for _, m := range []int{5, 6, 7, 8, 6 + n - 1, 6 + n, 6 + n + 1, 6 + n + 10} {
			check(t, b[:min(m, len(b))])
		}
		check(t, append(b[:6+n:6+n], plainBytes(api.Mbap{Tx: 1, Unit: 1, PDU: []byte{7}})...))
	}
}

// TestCutExamples: P5.2, the chapter's examples, and others; the frames and their bytes are told beside an error too.
func TestCutExamples(t *testing.T) {
	b := []byte{1, 2, 0, 0, 0, 6, 7, 3, 0, 1, 0, 2}
	for _, x := range []struct {
		b    []byte
		l, n int
		want api.Errno
	}{
		{nil, 0, 0, api.OK},
		{[]byte{}, 0, 0, api.OK},
		{b, 1, 12, api.OK},
		{b[:11], 0, 0, api.OK},
		{slices.Concat(b, []byte{9}), 1, 12, api.OK},
		{slices.Concat(b, []byte{9, 9}), 1, 12, api.OK},
		{slices.Concat(b, []byte{9, 9, 1}), 1, 12, api.ErrFrame},
		{slices.Concat(b, []byte{9, 9, 0, 1}), 1, 12, api.ErrFrame},
		{slices.Concat(b, b, []byte{9, 9, 0, 0, 0}), 2, 24, api.OK},
		{slices.Concat(b, b, []byte{9, 9, 0, 0, 1}), 2, 24, api.ErrFrame},
		{slices.Concat(b, []byte{9, 9, 0, 0, 0, 0}), 1, 12, api.ErrFrame},
		{slices.Concat(b, []byte{9, 9, 0, 0, 0, 1}), 1, 12, api.ErrFrame},
		{slices.Concat(b, []byte{9, 9, 0, 0, 0, 2}), 1, 12, api.OK},
		{slices.Concat(b, []byte{9, 9, 0, 0, 0, 254}), 1, 12, api.OK},
		{slices.Concat(b, []byte{9, 9, 0, 0, 0, 255}), 1, 12, api.ErrFrame},
		{slices.Concat([]byte{9, 9, 0, 0, 0, 1, 7}, b), 0, 0, api.ErrFrame},
		{slices.Concat([]byte{9}, b), 0, 0, api.ErrFrame},
		{slices.Concat(b, []byte{9, 9, 1}, b), 1, 12, api.ErrFrame},
	} {
		l, n, e := mbap.Cut(x.b)
		if len(l) != x.l || n != x.n || e != x.want {
			t.Errorf("Cut(%v) = %v, %d, %d", x.b, l, n, e)
		}
		for _, got := range l {
			if !same(got, api.Mbap{Tx: 258, Unit: 7, PDU: []byte{3, 0, 1, 0, 2}}) {
				t.Errorf("Cut(%v) = %v, %d, %d", x.b, l, n, e)
			}
		}
	}
}

// TestCutOfStream: P5.2, streams of frames that end anywhere.
func TestCutOfStream(t *testing.T) {
	l := some()
	b := stream(l)
	for end := range len(b) + 1 {
		whole, have := 0, 0
		for whole < len(l) && have+7+len(l[whole].PDU) <= end {
			have += 7 + len(l[whole].PDU)
			whole++
		}
		got, n, e := mbap.Cut(b[:end])
		if e != api.OK || n != have || !slices.EqualFunc(got, l[:whole], same) {
			t.Fatalf("of %d bytes: %d frames, %d bytes, error %d, want %d, %d", end, len(got), n, e, whole, have)
		}
	}
}

// TestCutOfManyFrames: P5.2, a long stream.
func TestCutOfManyFrames(t *testing.T) {
	var l []api.Mbap
	for i := range 50000 {
		l = append(l, api.Mbap{Tx: uint16(i), Unit: uint8(i / 7), PDU: noise.Bytes(1 + i%40)})
	}
	b := stream(l)
	if got, n, e := mbap.Cut(b); e != api.OK || n != len(b) || !slices.EqualFunc(got, l, same) {
		t.Errorf("%d frames, %d of %d bytes, error %d", len(got), n, len(b), e)
	}
}

// TestCutOfNoise: P5.1 and P5.2, bytes that are mostly 0, so that some of them are frames.
func TestCutOfNoise(t *testing.T) {
	frames, wrong := 0, 0
	for i := range 20000 {
		b := noise.Bytes(i % 50)
		for j, w := range noise.Words(50 + i)[:len(b)] {
			b[j] = []byte{0, 0, 0, 0, 0, 0, 2, 3, 4, b[j]}[w%10]
		}
		check(t, b)
		l, _, e := mbap.Cut(b)
		frames += len(l)
		if e != api.OK {
			wrong++
		}
	}
	if frames < 100 || wrong < 100 || wrong > 19900 {
		t.Errorf("%d frames, %d errors", frames, wrong)
	}
}

// receive appends parts to what was left, one by one, and returns all frames that were cut off.
func receive(t *testing.T, parts [][]byte) []api.Mbap {
	t.Helper()
	var all []api.Mbap
	var left []byte
	for _, part := range parts {
		left = append(left, part...)
		l, n, e := mbap.Cut(left)
		if e != api.OK || n < 0 || n > len(left) {
			t.Fatalf("%d bytes of %d, error %d", n, len(left), e)
		}
		all, left = append(all, l...), left[n:]
	}
	if len(left) != 0 {
		t.Fatalf("%v is left", left)
	}
	return all
}

// TestParts: P5.3, a stream in two parts and in three, cut anywhere, and in equal parts of any length, gives the same frames.
func TestParts(t *testing.T) {
	few := some()[:7]
	b := stream(few)
	for i := range len(b) + 1 {
		for j := i; j <= len(b); j++ {
			if got := receive(t, [][]byte{b[:i], b[i:j], b[j:]}); !slices.EqualFunc(got, few, same) {
				t.Fatalf("cut at %d and %d: %v", i, j, got)
			}
		}
	}
	all := some()
	for size := 1; size <= 300; size++ {
		if got := receive(t, slices.Collect(slices.Chunk(stream(all), size))); !slices.EqualFunc(got, all, same) {
			t.Fatalf("parts of %d bytes: %d frames", size, len(got))
		}
	}
}

// TestPartsOfNoise: P5.3, a stream in parts of many lengths, empty ones among them.
func TestPartsOfNoise(t *testing.T) {
	l := some()
	for i := range 200 {
		b := stream(l)
		parts := [][]byte{nil}
		for _, w := range noise.Words(100 + i) {
			n := min(len(b), int(w)%(1+i))
			parts, b = append(parts, b[:n]), b[n:]
		}
		if got := receive(t, append(parts, b, nil)); !slices.EqualFunc(got, l, same) {
			t.Fatalf("parts by noise %d: %d frames", i, len(got))
		}
	}
}

// TestStreamEnds: P5.3, another byte in place of a zero, or a length out of its range, ends a stream as soon as it is there, whatever follows.
func TestStreamEnds(t *testing.T) {
	l := some()[:6]
	b := stream(l)
	at := 0
	for i, x := range l {
		end := func(place int, change func(b []byte)) {
			wrong := bytes.Clone(b)
			change(wrong[at:])
			for n := at + place; n <= len(b); n++ {
				got, have, e := mbap.Cut(wrong[:n])
				if e != api.ErrFrame || have != at || !slices.EqualFunc(got, l[:i], same) {
					t.Fatalf("Cut(%v) = %v, %d, %d, want an error at %d", wrong[:n], got, have, e, at)
				}
			}
		}
		for c := 1; c < 256; c++ {
			end(3, func(b []byte) { b[2] = byte(c) })
			end(4, func(b []byte) { b[3] = byte(c) })
			end(5, func(b []byte) { b[4] = byte(c) })
		}
		for _, c := range []byte{0, 1, 255} {
			end(6, func(b []byte) { b[5] = c })
		}
		at += 7 + len(x.PDU)
	}
}

// TestPackMemory: R3, the bytes of a frame are in memory of their own, and neither the PDU nor its spare capacity changes.
func TestPackMemory(t *testing.T) {
	whole := []byte{3, 0, 1, 0, 2, 6, 7, 8, 9, 10, 11, 12, 13, 14}
	old := bytes.Clone(whole)
	one, _ := mbap.Pack(api.Mbap{Tx: 258, Unit: 7, PDU: whole[:5]})
	two, _ := mbap.Pack(api.Mbap{Tx: 258, Unit: 7, PDU: whole[:5]})
	clear(one[:cap(one)])
	if !bytes.Equal(whole, old) {
		t.Error("the argument has changed:", whole)
	}
	clear(whole)
	if !bytes.Equal(two, []byte{1, 2, 0, 0, 0, 6, 7, 3, 0, 1, 0, 2}) {
		t.Error("the result has changed:", two)
	}
}

// TestParseMemory: R3, the PDU of a frame is in memory of its own.
func TestParseMemory(t *testing.T) {
	whole := []byte{1, 2, 0, 0, 0, 6, 7, 3, 0, 1, 0, 2, 9, 9}
	old := bytes.Clone(whole)
	one, _ := mbap.Parse(whole[:12])
	two, _ := mbap.Parse(whole[:12])
	_ = append(one.PDU, 1, 2, 3)
	clear(one.PDU[:cap(one.PDU)])
	if !bytes.Equal(whole, old) {
		t.Error("the argument has changed:", whole)
	}
	clear(whole)
	if !bytes.Equal(two.PDU, []byte{3, 0, 1, 0, 2}) {
		t.Error("the result has changed:", two)
	}
}

// TestCutMemory: R3, no two PDUs share memory with each other, nor one with the bytes, and neither these nor their spare capacity change.
func TestCutMemory(t *testing.T) {
	l := some()
	whole := append(stream(l), 1, 2, 3, 4)
	old := bytes.Clone(whole)
	got, _, _ := mbap.Cut(whole[:len(whole)-4])
	again, _, _ := mbap.Cut(whole[:len(whole)-4])
	for i := range got {
		clear(got[i].PDU[:cap(got[i].PDU)])
		if !slices.EqualFunc(got[i+1:], l[i+1:], same) {
			t.Fatalf("frame %d shares memory with others", i)
		}
	}
	if !bytes.Equal(whole, old) {
		t.Error("the argument has changed:", whole)
	}
	clear(whole)
	if !slices.EqualFunc(again, l, same) {
		t.Error("the result has changed:", again)
	}
}
