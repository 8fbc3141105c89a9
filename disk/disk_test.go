package disk_test

import (
	"math"
	"slices"
	"testing"

	"saucier/api"
	"saucier/disk"
	"saucier/noise"
)

// plain is a disk by the chapter, without a panic.
type plain struct {
	room      int
	bytes     []byte
	safe      int
	sparks    int
	unlimited bool
	off       bool
}

// use uses up a spark, or turns the power off.
func (p *plain) use() bool {
	if p.unlimited {
		return true
	}
	if p.sparks == 0 {
		p.off = true
		return false
	}
	p.sparks--
	return true
}

func (p *plain) append(b []byte) api.Errno {
	if p.off {
		return api.ErrOff
	}
	if len(p.bytes)+len(b) > p.room {
		return api.ErrFull
	}
	for _, c := range b {
		if !p.use() {
			return api.ErrOff
		}
		p.bytes = append(p.bytes, c)
	}
	return api.OK
}

func (p *plain) sync() api.Errno {
	if p.off || !p.use() {
		return api.ErrOff
	}
	p.safe = len(p.bytes)
	return api.OK
}

func (p *plain) cut(n int) api.Errno {
	if p.off {
		return api.ErrOff
	}
	if n < 0 || n > len(p.bytes) {
		return api.ErrArg
	}
	if !p.use() {
		return api.ErrOff
	}
	p.bytes = p.bytes[:n]
	if p.safe > n {
		p.safe = n
	}
	return api.OK
}

func (p *plain) spark(n int) {
	p.unlimited = n < 0
	p.sparks = n
}

func (p *plain) crash(keep int) {
	var stay []byte
	for i, c := range p.bytes {
		if i < p.safe || i-p.safe < keep {
			stay = append(stay, c)
		}
	}
	*p = plain{room: p.room, bytes: stay, safe: len(stay), unlimited: true}
}

// Verbs of steps.
const (
	appends = iota
	syncs
	cuts
	sparks
	crashes
)

// step is a call: its verb, a number, bytes.
type step struct {
	verb int
	n    int
	b    []byte
}

// onDisk does a step on a disk.
func (s step) onDisk(d *disk.Disk) api.Errno {
	switch s.verb {
	case appends:
		return d.Append(s.b)
	case syncs:
		return d.Sync()
	case cuts:
		return d.Cut(s.n)
	case sparks:
		d.Sparks(s.n)
	case crashes:
		d.Crash(s.n)
	}
	return api.OK
}

// onPlain does a step on a plain disk.
func (s step) onPlain(p *plain) api.Errno {
	switch s.verb {
	case appends:
		return p.append(s.b)
	case syncs:
		return p.sync()
	case cuts:
		return p.cut(s.n)
	case sparks:
		p.spark(s.n)
	case crashes:
		p.crash(s.n)
	}
	return api.OK
}

// made is a new disk.
func made(t *testing.T, room int) *disk.Disk {
	t.Helper()
	d, e := disk.New(room)
	if d == nil || e != api.OK {
		t.Fatalf("New(%d): %v, %d", room, d, e)
	}
	return d
}

// has checks all that a disk tells.
func has(t *testing.T, d *disk.Disk, want plain) {
	t.Helper()
	if b := d.Bytes(); !slices.Equal(b, want.bytes) || d.Len() != len(want.bytes) {
		t.Fatalf("the bytes %v, and %d of them; want %v", b, d.Len(), want.bytes)
	}
	if d.Safe() != want.safe || d.Room() != want.room || d.Off() != want.off {
		t.Fatalf("%d safe, room for %d, off: %t; want %d, %d, %t", d.Safe(), d.Room(), d.Off(), want.safe, want.room, want.off)
	}
}

// walk does steps on a new disk, and on a plain one, and compares them after each.
func walk(t *testing.T, room int, l []step) {
	t.Helper()
	d, p := made(t, room), plain{room: room, unlimited: true}
	for i, s := range l {
		if got, want := s.onDisk(d), s.onPlain(&p); got != want {
			t.Fatalf("room %d, step %d of %v: error %d, want %d", room, i, l, got, want)
		}
		if d.Len() != len(p.bytes) || d.Safe() != p.safe || d.Off() != p.off || d.Room() != room || !slices.Equal(d.Bytes(), p.bytes) {
			t.Fatalf("room %d, step %d of %v: %v, %d safe, off: %t; want %+v", room, i, l, d.Bytes(), d.Safe(), d.Off(), p)
		}
	}
}

// TestNew: P9.1, rooms at the edges and beyond: a disk without bytes, with its power on; or none.
func TestNew(t *testing.T) {
	for _, room := range []int{0, 1, 2, 9, 255, 65536, api.MaxDisk - 1, api.MaxDisk, 1 << 18} {
		has(t, made(t, room), plain{room: room})
	}
	for _, room := range []int{-1, -2, -api.MaxDisk, api.MaxDisk + 1, 1<<18 + 1, 1 << 32, 1<<32 + 5, math.MaxInt, math.MinInt} {
		if d, e := disk.New(room); d != nil || e != api.ErrArg {
			t.Errorf("New(%d): %v, %d", room, d, e)
		}
	}
}

// TestExamples: the chapter's example, call by call.
func TestExamples(t *testing.T) {
	d := made(t, 9)
	for i, x := range []struct {
		step
		want api.Errno
		then plain
	}{
		{step{verb: appends, b: []byte{1, 2, 3}}, api.OK, plain{bytes: []byte{1, 2, 3}}},
		{step{verb: syncs}, api.OK, plain{bytes: []byte{1, 2, 3}, safe: 3}},
		{step{verb: appends, b: []byte{4, 5}}, api.OK, plain{bytes: []byte{1, 2, 3, 4, 5}, safe: 3}},
		{step{verb: crashes, n: 1}, api.OK, plain{bytes: []byte{1, 2, 3, 4}, safe: 4}},
		{step{verb: sparks, n: 2}, api.OK, plain{bytes: []byte{1, 2, 3, 4}, safe: 4}},
		{step{verb: appends, b: []byte{6, 7, 8}}, api.ErrOff, plain{bytes: []byte{1, 2, 3, 4, 6, 7}, safe: 4, off: true}},
		{step{verb: syncs}, api.ErrOff, plain{bytes: []byte{1, 2, 3, 4, 6, 7}, safe: 4, off: true}},
		{step{verb: crashes, n: 0}, api.OK, plain{bytes: []byte{1, 2, 3, 4}, safe: 4}},
		{step{verb: appends, b: make([]byte, 6)}, api.ErrFull, plain{bytes: []byte{1, 2, 3, 4}, safe: 4}},
		{step{verb: cuts, n: 2}, api.OK, plain{bytes: []byte{1, 2}, safe: 2}},
	} {
		if e := x.onDisk(d); e != x.want {
			t.Fatalf("call %d: error %d, want %d", i, e, x.want)
		}
		x.then.room = 9
		has(t, d, x.then)
	}
}

// TestWalks: P9.2 to P9.4, all ways to make five calls out of some, on disks with little room.
func TestWalks(t *testing.T) {
	calls := []step{
		{verb: appends}, {verb: appends, b: []byte{1}}, {verb: appends, b: []byte{2, 3}}, {verb: appends, b: []byte{4, 5, 6}},
		{verb: syncs}, {verb: cuts}, {verb: cuts, n: 1}, {verb: cuts, n: 3},
		{verb: sparks}, {verb: sparks, n: 2}, {verb: sparks, n: -1}, {verb: crashes}, {verb: crashes, n: 1},
	}
	const long = 5
	l := make([]step, long)
	ways := 1
	for range long {
		ways *= len(calls)
	}
	for way := range ways {
		for i, left := 0, way; i < long; i, left = i+1, left/len(calls) {
			l[i] = calls[left%len(calls)]
		}
		walk(t, 3+way%2, l)
	}
}

// TestLongWalks: P9.2 to P9.4, many calls with numbers and bytes of all sorts, one after the other.
func TestLongWalks(t *testing.T) {
	for seed := range 3000 {
		dice := noise.Words(200 + seed%50 + seed)
		room := int(dice[0]) % 40
		var l []step
		for i := 1; i+1 < 160; i += 2 {
			n := int(dice[i+1])
			switch dice[i] % 12 {
			case 0, 1, 2, 3, 4:
				l = append(l, step{verb: appends, b: noise.Bytes(n % 12)})
			case 5, 6:
				l = append(l, step{verb: syncs})
			case 7:
				l = append(l, step{verb: cuts, n: n%(room+3) - 1})
			case 8, 9:
				l = append(l, step{verb: sparks, n: n%40 - 2})
			case 10, 11:
				l = append(l, step{verb: crashes, n: n%20 - 2})
			}
		}
		walk(t, room, l)
	}
}

// TestAppend: P9.2, as many bytes as there is room for, one more, and none; what does not fit changes nothing, and takes no spark.
func TestAppend(t *testing.T) {
	for _, room := range []int{0, 1, 2, 5, 8192, api.MaxDisk - 1, api.MaxDisk} {
		d, b := made(t, room), noise.Bytes(room+1)
		d.Sparks(room + 1)
		if e := d.Append(b); e != api.ErrFull {
			t.Fatalf("one byte too many for room %d: %d", room, e)
		}
		has(t, d, plain{room: room})
		if e := d.Append(b[:room]); e != api.OK {
			t.Fatalf("room %d: %d", room, e)
		}
		if e := d.Append(b[room:]); e != api.ErrFull {
			t.Fatalf("room %d, full: %d", room, e)
		}
		if e := d.Append(nil); e != api.OK {
			t.Fatalf("room %d, no bytes: %d", room, e)
		}
		has(t, d, plain{room: room, bytes: b[:room]})
		if e := d.Sync(); e != api.OK {
			t.Fatalf("room %d, the last spark: %d", room, e)
		}
		has(t, d, plain{room: room, bytes: b[:room], safe: room})
		if e := d.Sync(); e != api.ErrOff {
			t.Fatalf("room %d, no spark: %d", room, e)
		}
		has(t, d, plain{room: room, bytes: b[:room], safe: room, off: true})
	}
}

// TestAppendFails: P9.2, of so many bytes with so many sparks as many are appended as there are sparks, and the power is off only if there are too few.
func TestAppendFails(t *testing.T) {
	for size := range 20 {
		for n := range 25 {
			d, b := made(t, 40), noise.Bytes(size)
			if e := d.Append([]byte{7, 8}); e != api.OK {
				t.Fatal(e)
			}
			d.Sparks(n)
			want, fails := slices.Concat([]byte{7, 8}, b[:min(size, n)]), size > n
			if e := d.Append(b); (e == api.ErrOff) != fails || (e == api.OK) == fails {
				t.Fatalf("%d bytes, %d sparks: %d", size, n, e)
			}
			has(t, d, plain{room: 40, bytes: want, off: fails})
		}
	}
}

// TestOrder: P9.2 and P9.3, of two errors the first one: no power before no room and wrong numbers, these before no spark, which leaves the power on.
func TestOrder(t *testing.T) {
	d := made(t, 2)
	if e := d.Append([]byte{1}); e != api.OK {
		t.Fatal(e)
	}
	wrong := []step{{verb: appends, b: []byte{2, 3}}, {verb: cuts, n: -1}, {verb: cuts, n: 2}, {verb: cuts, n: math.MaxInt}, {verb: cuts, n: math.MinInt}}
	d.Sparks(0)
	for _, s := range wrong {
		want := api.ErrArg
		if s.verb == appends {
			want = api.ErrFull
		}
		if e := s.onDisk(d); e != want {
			t.Errorf("%v without sparks: %d", s, e)
		}
		has(t, d, plain{room: 2, bytes: []byte{1}})
	}
	if e := d.Append(nil); e != api.OK {
		t.Errorf("no bytes need no spark: %d", e)
	}
	has(t, d, plain{room: 2, bytes: []byte{1}})
	if e := d.Sync(); e != api.ErrOff {
		t.Errorf("Sync without sparks: %d", e)
	}
	for _, s := range append(wrong, step{verb: appends}, step{verb: appends, b: []byte{1}}, step{verb: syncs}, step{verb: cuts}, step{verb: cuts, n: 1}) {
		if e := s.onDisk(d); e != api.ErrOff {
			t.Errorf("%v without power: %d", s, e)
		}
		has(t, d, plain{room: 2, bytes: []byte{1}, off: true})
	}
}

// TestCut: P9.3, bytes of which some are safe are cut at each place: only those that were safe still are, and none of the others come back.
func TestCut(t *testing.T) {
	b := noise.Bytes(12)
	for safe := range 13 {
		for n := -2; n < 15; n++ {
			d := made(t, 12)
			if d.Append(b[:safe]) != api.OK || d.Sync() != api.OK || d.Append(b[safe:]) != api.OK {
				t.Fatal("no disk")
			}
			d.Sparks(1)
			if n < 0 || n > 12 {
				if e := d.Cut(n); e != api.ErrArg {
					t.Fatalf("Cut(%d) of 12: %d", n, e)
				}
				has(t, d, plain{room: 12, bytes: b, safe: safe})
				continue
			}
			if e := d.Cut(n); e != api.OK {
				t.Fatalf("Cut(%d) of 12: %d", n, e)
			}
			has(t, d, plain{room: 12, bytes: b[:n], safe: min(safe, n)})
			if e := d.Cut(n); e != api.ErrOff {
				t.Fatalf("Cut(%d) without a spark: %d", n, e)
			}
			d.Crash(100)
			has(t, d, plain{room: 12, bytes: b[:n], safe: n})
			if e := d.Append([]byte{9}); n < 12 && e != api.OK || n == 12 && e != api.ErrFull {
				t.Fatalf("Append after Cut(%d): %d", n, e)
			}
		}
	}
}

// TestSparks: P9.4, each call takes as many sparks as the chapter says; unlimited at first, after a crash, and after a negative number.
func TestSparks(t *testing.T) {
	b := noise.Bytes(30)
	for _, n := range []int{-1, -2, math.MinInt, math.MinInt + 1, math.MaxInt, math.MaxInt - 1, 10 * (30 + 2)} {
		d := made(t, 30)
		d.Sparks(3)
		d.Sparks(n) // sets, and does not add
		for range 10 {
			if d.Append(b) != api.OK || d.Sync() != api.OK || d.Cut(0) != api.OK {
				t.Fatalf("after Sparks(%d)", n)
			}
		}
		if e := d.Sync(); (e == api.ErrOff) != (n == 320) {
			t.Fatalf("after Sparks(%d): %d", n, e)
		}
	}
	d := made(t, 30)
	d.Sparks(5)
	d.Sparks(1)
	if d.Sync() != api.OK || d.Cut(0) != api.ErrOff || !d.Off() {
		t.Error("the second number of sparks is not what is left")
	}
	for _, n := range []int{-1, 0, 5, math.MaxInt} {
		d.Sparks(n)
		if !d.Off() || d.Sync() != api.ErrOff || d.Append(nil) != api.ErrOff {
			t.Errorf("Sparks(%d) turns the power on", n)
		}
	}
	d.Crash(0)
	for range 1000 {
		if d.Sync() != api.OK {
			t.Fatal("the sparks after a crash have a limit")
		}
	}
	d.Sparks(1)
	d.Crash(0)
	if d.Sync() != api.OK || d.Sync() != api.OK {
		t.Error("a crash while the power is on leaves the sparks")
	}
}

// TestCrash: P9.4 and P9.5, after writes of which some bytes are safe, with the power on and off: what is safe, and the first of the rest.
func TestCrash(t *testing.T) {
	b := noise.Bytes(12)
	for safe := range 13 {
		for _, keep := range []int{0, 1, 2, 3, 5, 11, 12, 13, 100, -1, -2, -12, math.MaxInt, math.MaxInt - 1, math.MaxInt - 12, math.MinInt, math.MinInt + 1} {
			for _, fail := range []bool{false, true} {
				d := made(t, 20)
				if d.Append(b[:safe]) != api.OK || d.Sync() != api.OK || d.Append(b[safe:]) != api.OK {
					t.Fatal("no disk")
				}
				d.Sparks(0)
				if fail && d.Sync() != api.ErrOff {
					t.Fatal("Sync without a spark")
				}
				d.Crash(keep)
				stay := safe
				for stay < 12 && stay-safe < keep {
					stay++
				}
				has(t, d, plain{room: 20, bytes: b[:stay], safe: stay})
				d.Crash(-1)
				has(t, d, plain{room: 20, bytes: b[:stay], safe: stay})
				if e := d.Sync(); e != api.OK {
					t.Fatalf("%d safe, Sync after Crash(%d): %d", safe, keep, e)
				}
			}
		}
	}
}

// TestPrefix: P9.5, without a Cut: what is safe stays after any crash at any spark, and what stays is a prefix of what was written.
func TestPrefix(t *testing.T) {
	written := noise.Bytes(60)
	for spark := range 80 {
		for keep := -1; keep < 12; keep++ {
			d := made(t, 60)
			d.Sparks(spark)
			acknowledged := 0
			for at := 0; at < 60; at += 6 {
				if d.Append(written[at:at+6]) != api.OK || d.Sync() != api.OK {
					break
				}
				acknowledged = at + 6
			}
			safe := d.Safe()
			d.Crash(keep)
			got := d.Bytes()
			if safe != acknowledged || len(got) < safe || len(got) > 60 || !slices.Equal(got, written[:len(got)]) || d.Safe() != len(got) {
				t.Fatalf("%d sparks, Crash(%d): %d acknowledged, %d safe, then %v", spark, keep, acknowledged, safe, got)
			}
			if d.Cut(len(got)/2) != api.OK || d.Safe() != len(got)/2 {
				t.Fatalf("%d sparks, Crash(%d), Cut(%d): %d safe", spark, keep, len(got)/2, d.Safe())
			}
		}
	}
}

// TestNil: R5, a disk that is nil, or that New did not return: ErrNil, zero values, and nothing happens.
func TestNil(t *testing.T) {
	right := made(t, 9)
	if right.Append([]byte{1, 2}) != api.OK || right.Sync() != api.OK {
		t.Fatal("no disk")
	}
	right.Sparks(0)
	copied := *right
	for i, d := range []*disk.Disk{nil, {}, new(disk.Disk), &copied} {
		for _, n := range []int{0, 1, -1, 9, math.MaxInt, math.MinInt} {
			d.Sparks(n)
			d.Crash(n)
			if e := d.Cut(n); e != api.ErrNil {
				t.Errorf("disk %d, Cut(%d): %d", i, n, e)
			}
		}
		for _, b := range [][]byte{nil, {}, {1}, make([]byte, 10)} {
			if e := d.Append(b); e != api.ErrNil {
				t.Errorf("disk %d, Append(%v): %d", i, b, e)
			}
		}
		if e := d.Sync(); e != api.ErrNil {
			t.Errorf("disk %d, Sync: %d", i, e)
		}
		if d.Bytes() != nil || d.Len() != 0 || d.Safe() != 0 || d.Room() != 0 || d.Off() {
			t.Errorf("disk %d: %v, %d, %d, %d, %t", i, d.Bytes(), d.Len(), d.Safe(), d.Room(), d.Off())
		}
	}
	has(t, right, plain{room: 9, bytes: []byte{1, 2}, safe: 2})
	if right.Cut(0) != api.ErrOff || !right.Off() {
		t.Error("the sparks of a disk changed with those of a copy")
	}
}

// TestMemory: R3, what is appended is neither changed nor kept, nor is its spare capacity; what Bytes returns is new, and stays what it was.
func TestMemory(t *testing.T) {
	d := made(t, 30)
	all := []byte{1, 2, 3, 4, 5, 6}
	if d.Append(all[:3]) != api.OK || d.Append(all[1:2]) != api.OK {
		t.Fatal("Append")
	}
	if !slices.Equal(all, []byte{1, 2, 3, 4, 5, 6}) {
		t.Errorf("Append changed its argument: %v", all)
	}
	clear(all)
	has(t, d, plain{room: 30, bytes: []byte{1, 2, 3, 2}})
	first, second := d.Bytes(), d.Bytes()
	clear(first)
	if !slices.Equal(second, []byte{1, 2, 3, 2}) {
		t.Errorf("two results share memory: %v", second)
	}
	has(t, d, plain{room: 30, bytes: []byte{1, 2, 3, 2}})
	longer := append(d.Bytes(), 77)
	if d.Cut(1) != api.OK || d.Append([]byte{9, 9, 9, 9}) != api.OK {
		t.Fatal("Cut and Append")
	}
	has(t, d, plain{room: 30, bytes: []byte{1, 9, 9, 9, 9}})
	if !slices.Equal(second, []byte{1, 2, 3, 2}) || !slices.Equal(longer, []byte{1, 2, 3, 2, 77}) {
		t.Errorf("what Bytes returned changed later: %v, %v", second, longer)
	}
	if d.Append(d.Bytes()) != api.OK {
		t.Fatal("Append of its own bytes")
	}
	has(t, d, plain{room: 30, bytes: []byte{1, 9, 9, 9, 9, 1, 9, 9, 9, 9}})
}

// TestApart: R4, two disks have nothing in common, and the same calls have the same results on both.
func TestApart(t *testing.T) {
	a, b := made(t, 5), made(t, 5)
	if a.Append([]byte{1, 2}) != api.OK || a.Sync() != api.OK {
		t.Fatal("no disk")
	}
	a.Sparks(0)
	if a.Sync() != api.ErrOff {
		t.Fatal("Sync without a spark")
	}
	has(t, b, plain{room: 5})
	if b.Append([]byte{1, 2}) != api.OK || b.Sync() != api.OK {
		t.Fatal("the power of the other disk is off")
	}
	b.Sparks(0)
	if b.Sync() != api.ErrOff {
		t.Fatal("Sync without a spark")
	}
	has(t, a, plain{room: 5, bytes: b.Bytes(), safe: b.Safe(), off: b.Off()})
}
