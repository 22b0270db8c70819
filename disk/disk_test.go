package disk_test

import (
	"bytes"
	"math"
	"math/rand"
	"strings"
	"testing"

	"sautoir/api"
	"sautoir/disk"
)

// noAreas are numbers of which there is no area.
func noAreas() []int {
	return []int{-1, 2, 3, math.MinInt, math.MaxInt, 1 << 32}
}

// expect holds an area against its bytes, and how many of them are sure.
func expect(t *testing.T, d *disk.Disk, area int, want string, sure int) {
	t.Helper()
	if b, e := d.Read(area); string(b) != want || e != api.OK || d.Sure(area) != sure {
		t.Errorf("area %d: %q, %d, %d sure; want %q, %d sure", area, b, e, d.Sure(area), want, sure)
	}
}

// done holds a call's number against OK.
func done(t *testing.T, what string, e api.Errno) {
	t.Helper()
	if e != api.OK {
		t.Fatalf("%s: %d", what, e)
	}
}

// filled answers a disk of 20 bytes of room with abc (of which ab is sure) and 12345 (of which 123 is).
func filled(t *testing.T) *disk.Disk {
	t.Helper()
	d := disk.New(20)
	for area, parts := range [2][2]string{{"ab", "c"}, {"123", "45"}} {
		done(t, "Append", d.Append(area, []byte(parts[0])))
		done(t, "Sync", d.Sync(area))
		done(t, "Append", d.Append(area, []byte(parts[1])))
	}
	return d
}

func TestNew(t *testing.T) { // P5.1
	for room, want := range map[int]int{0: 0, 1: 1, 10: 10, 1 << 20: 1 << 20, 1<<20 - 1: 1<<20 - 1, 1<<20 + 1: 1 << 20, math.MaxInt: 1 << 20, -1: 0, math.MinInt: 0} {
		d := disk.New(room)
		if d == nil || d.Room() != want || d.Lost() {
			t.Fatalf("New(%d): room %d, want %d", room, d.Room(), want)
		}
		expect(t, d, 0, "", 0)
		expect(t, d, 1, "", 0)
		if e := d.Append(1, make([]byte, want+1)); e != api.ErrFull {
			t.Errorf("New(%d): more than its room: %d", room, e)
		}
		if e := d.Append(1, make([]byte, want)); e != api.OK || d.Room() != 0 {
			t.Errorf("New(%d): as much as its room: %d, %d left", room, e, d.Room())
		}
	}
}

func TestRoom(t *testing.T) { // P5.1
	d := disk.New(10)
	for i, left := range []int{8, 6, 4, 2, 0} {
		if e := d.Append(i%2, []byte("ab")); e != api.OK || d.Room() != left {
			t.Errorf("Append %d: %d, %d left, want %d", i, e, d.Room(), left)
		}
	}
	if d.Append(0, []byte("x")) != api.ErrFull || d.Append(1, []byte("x")) != api.ErrFull || d.Append(0, nil) != api.OK {
		t.Error("a full disk")
	}
	done(t, "Cut", d.Cut(0, 1))
	if d.Room() != 5 || d.Append(1, []byte("123456")) != api.ErrFull || d.Append(1, []byte("12345")) != api.OK || d.Room() != 0 {
		t.Error("the room of what was cut off")
	}
	d.Crash([2]uint16{})
	if d.Room() != 9 {
		t.Errorf("the room of what a crash took: %d", d.Room())
	}
}

func TestAppendAndSync(t *testing.T) { // P5.2
	d := disk.New(20)
	done(t, "Append", d.Append(0, []byte("ab")))
	expect(t, d, 0, "ab", 0)
	done(t, "Sync", d.Sync(1))
	expect(t, d, 0, "ab", 0)
	done(t, "Sync", d.Sync(0))
	expect(t, d, 0, "ab", 2)
	done(t, "Append", d.Append(1, []byte("123")))
	done(t, "Append", d.Append(0, []byte("c")))
	done(t, "Append", d.Append(0, []byte("de")))
	expect(t, d, 0, "abcde", 2)
	expect(t, d, 1, "123", 0)
	done(t, "Sync", d.Sync(0))
	expect(t, d, 0, "abcde", 5)
	expect(t, d, 1, "123", 0)
}

func TestCut(t *testing.T) { // P5.2
	for n := range 6 {
		d := filled(t)
		done(t, "Cut", d.Cut(1, n))
		expect(t, d, 1, "12345"[:n], n)
		expect(t, d, 0, "abc", 2)
		done(t, "Append", d.Append(1, []byte("xy")))
		expect(t, d, 1, "12345"[:n]+"xy", n)
	}
}

func TestWrongArguments(t *testing.T) { // P5.2, P5.3
	d := filled(t)
	for _, area := range noAreas() {
		if b, e := d.Read(area); b != nil || e != api.ErrArg {
			t.Errorf("Read(%d): %q, %d", area, b, e)
		}
		if d.Append(area, nil) != api.ErrArg || d.Append(area, make([]byte, 99)) != api.ErrArg || d.Sync(area) != api.ErrArg || d.Cut(area, 0) != api.ErrArg || d.Cut(area, -1) != api.ErrArg || d.Sure(area) != 0 {
			t.Errorf("area %d", area)
		}
	}
	for _, n := range []int{-1, 4, 5, 20, math.MinInt, math.MaxInt} {
		if e := d.Cut(0, n); e != api.ErrArg {
			t.Errorf("Cut(0, %d): %d", n, e)
		}
	}
	if e := d.Append(0, make([]byte, 13)); e != api.ErrFull {
		t.Errorf("Append of more than room: %d", e)
	}
	expect(t, d, 0, "abc", 2)
	expect(t, d, 1, "12345", 3)
}

func TestErrorsAreNoWrites(t *testing.T) { // P5.2
	d := filled(t)
	d.Arm(1)
	refused := func(when string) {
		t.Helper()
		if d.Append(2, nil) != api.ErrArg || d.Append(0, make([]byte, 21)) != api.ErrFull || d.Sync(-1) != api.ErrArg || d.Cut(3, 0) != api.ErrArg || d.Cut(0, 9) != api.ErrArg || d.Cut(1, -1) != api.ErrArg {
			t.Error(when)
		}
	}
	refused("with one write left")
	done(t, "the write that is left", d.Sync(0))
	refused("with no write left")
	if d.Lost() {
		t.Error("lost at what is no write")
	}
	if e := d.Sync(1); e != api.ErrLost || !d.Lost() {
		t.Errorf("at a write: %d, lost %v", e, d.Lost())
	}
	refused("when it is lost")
}

// writes are the three kinds of writes, each of which can be done to a filled disk.
func writes() map[string]func(d *disk.Disk) api.Errno {
	return map[string]func(d *disk.Disk) api.Errno{
		"Append":            func(d *disk.Disk) api.Errno { return d.Append(0, []byte("xyz")) },
		"Append of nothing": func(d *disk.Disk) api.Errno { return d.Append(1, nil) },
		"Sync":              func(d *disk.Disk) api.Errno { return d.Sync(0) },
		"Cut":               func(d *disk.Disk) api.Errno { return d.Cut(1, 1) },
	}
}

func TestArm(t *testing.T) { // P5.3
	for name, write := range writes() {
		for n, want := range map[int]int{0: 0, 1: 1, 2: 2, 4: 4, -1: 0, math.MinInt: 0} {
			d := filled(t)
			d.Arm(n)
			for i := range want {
				if e := d.Sync(1); e != api.OK || d.Lost() {
					t.Errorf("%s: armed with %d: write %d: %d", name, n, i, e)
				}
			}
			if e := write(d); e != api.ErrLost || !d.Lost() {
				t.Errorf("%s: armed with %d: the write behind %d others: %d", name, n, want, e)
			}
			for again, write := range writes() {
				if e := write(d); e != api.ErrLost {
					t.Errorf("%s of a lost disk: %d", again, e)
				}
			}
			if b, e := d.Read(0); b != nil || e != api.ErrLost {
				t.Errorf("Read of a lost disk: %q, %d", b, e)
			}
			if b, e := d.Read(2); b != nil || e != api.ErrArg {
				t.Errorf("Read of no area of a lost disk: %q, %d", b, e)
			}
		}
	}
}

func TestArmAgain(t *testing.T) { // P5.3
	d := filled(t)
	d.Arm(0)
	d.Arm(math.MaxInt)
	for range 100 {
		done(t, "Sync", d.Sync(0))
	}
	d.Arm(0)
	if d.Lost() || d.Sync(0) != api.ErrLost {
		t.Error("armed with 0")
	}
	d.Arm(5)
	if !d.Lost() || d.Sync(0) != api.ErrLost {
		t.Error("a lost disk that is armed")
	}
	d.Crash([2]uint16{})
	for range 100 {
		done(t, "Sync behind a crash", d.Sync(0))
	}
}

func TestWhatIsLost(t *testing.T) { // P5.2, P5.3, P5.4
	for name, c := range map[string]struct {
		keep  [2]uint16
		first string
		other string
	}{
		// Only the bytes of the Append at which it is lost may have come: c and xyz are 4 that are not sure.
		"Append":            {[2]uint16{4, 2}, "abcxyz", "12345"},
		"Append of nothing": {[2]uint16{1, 2}, "abc", "12345"},
		"Sync":              {[2]uint16{0, 0}, "ab", "123"},
		"Cut":               {[2]uint16{1, 2}, "abc", "12345"},
	} {
		d := filled(t)
		d.Arm(0)
		room := d.Room()
		if e := writes()[name](d); e != api.ErrLost {
			t.Errorf("%s: %d", name, e)
		}
		if name == "Append" {
			room -= 3
		}
		for _, write := range writes() {
			write(d)
		}
		if d.Sure(0) != 2 || d.Sure(1) != 3 || d.Room() != room {
			t.Errorf("%s: %d and %d sure, room %d, want %d", name, d.Sure(0), d.Sure(1), d.Room(), room)
		}
		d.Crash(c.keep)
		expect(t, d, 0, c.first, len(c.first))
		expect(t, d, 1, c.other, len(c.other))
	}
}

func TestCrash(t *testing.T) { // P5.4
	const first, other = "abcdefg", "12345"
	for _, keep := range []uint16{0, 1, 2, 3, 4, 5, 6, 7, 8, 9, 100, 254, 255, 256, 257, 32767, 32768, 65534, 65535} {
		for _, sure := range []int{0, 1, 4, 5} {
			d := disk.New(50)
			for area, s := range [2]string{first, other} {
				done(t, "Append", d.Append(area, []byte(s[:sure])))
				done(t, "Sync", d.Sync(area))
				done(t, "Append", d.Append(area, []byte(s[sure:])))
			}
			d.Crash([2]uint16{keep, keep + 1})
			a, b := sure+int(keep)%(7-sure+1), sure+int(keep+1)%(5-sure+1)
			expect(t, d, 0, first[:a], a)
			expect(t, d, 1, other[:b], b)
			if d.Room() != 50-a-b {
				t.Errorf("room behind a crash: %d", d.Room())
			}
			d.Crash([2]uint16{3, 3})
			expect(t, d, 0, first[:a], a)
		}
	}
}

func TestCrashOfManyBytes(t *testing.T) { // P5.4
	d := disk.New(1 << 20)
	done(t, "Append", d.Append(0, make([]byte, 1<<20)))
	d.Crash([2]uint16{65535, 65535})
	if d.Sure(0) != 65535 || d.Room() != 1<<20-65535 {
		t.Errorf("%d bytes stay", d.Sure(0))
	}
}

func TestExample(t *testing.T) { // P5.4
	d := disk.New(10)
	done(t, "Append", d.Append(0, []byte("abc")))
	done(t, "Sync", d.Sync(0))
	done(t, "Append", d.Append(0, []byte("de")))
	d.Crash([2]uint16{1, 0})
	expect(t, d, 0, "abcd", 4)
}

func TestOwnMemory(t *testing.T) { // P1
	d := disk.New(100)
	b := []byte("abcdef")
	done(t, "Append", d.Append(0, b[:3]))
	copy(b, "??????")
	expect(t, d, 0, "abc", 0)
	got, _ := d.Read(0)
	got[0] = '!'
	_ = append(got[:1], strings.Repeat("!", 10)...)
	expect(t, d, 0, "abc", 0)
	before, _ := d.Read(0)
	done(t, "Cut", d.Cut(0, 1))
	done(t, "Append", d.Append(0, []byte("xyz")))
	if string(before) != "abc" {
		t.Errorf("what was read is written into: %q", before)
	}
	if string(b) != "??????" {
		t.Errorf("what was handed in is written into: %q", b)
	}
}

func TestNoDisk(t *testing.T) { // P1
	var d *disk.Disk
	for _, area := range append(noAreas(), 0, 1) {
		b, e := d.Read(area)
		if b != nil || e != api.ErrNil || d.Append(area, nil) != api.ErrNil || d.Append(area, []byte("a")) != api.ErrNil || d.Sync(area) != api.ErrNil || d.Cut(area, 0) != api.ErrNil || d.Cut(area, -1) != api.ErrNil || d.Sure(area) != 0 {
			t.Errorf("area %d of no disk", area)
		}
	}
	d.Arm(0)
	d.Arm(-1)
	d.Crash([2]uint16{1, 2})
	if d.Room() != 0 || d.Lost() {
		t.Error("no disk")
	}
}

func TestDiskByHand(t *testing.T) { // P1
	var d disk.Disk
	if d.Room() != 0 || d.Append(0, []byte("a")) != api.ErrFull || d.Append(0, nil) != api.OK || d.Sync(0) != api.OK || d.Cut(1, 0) != api.OK {
		t.Error("a disk that was not made by New")
	}
	d.Crash([2]uint16{9, 9})
	expect(t, &d, 0, "", 0)
}

// plain is an area as the chapter's words have it: bytes that are sure, and others.
type plain struct{ sure, rest string }

// disks holds a disk against two plain areas, whatever is asked of it.
type disks struct {
	d     *disk.Disk
	areas [2]plain
	room  int
	lost  bool
	left  int // -1: not armed
}

func (p *disks) free() int {
	n := p.room
	for _, a := range p.areas {
		n -= len(a.sure) + len(a.rest)
	}
	return n
}

func (p *disks) write() api.Errno {
	if !p.lost && p.left > 0 {
		p.left--
	} else if p.left == 0 {
		p.lost = true
	}
	if p.lost {
		return api.ErrLost
	}
	return api.OK
}

// step asks one thing, and answers what was told, and what should have been.
func (p *disks) step(rnd *rand.Rand) (got, want api.Errno) {
	area := rnd.Intn(2)
	a := &p.areas[area]
	switch rnd.Intn(9) {
	case 0, 1, 2:
		b := make([]byte, rnd.Intn(12))
		rnd.Read(b)
		got = p.d.Append(area, b)
		if len(b) > p.free() {
			return got, api.ErrFull
		}
		was := p.lost
		want = p.write()
		if !was {
			a.rest += string(b)
		}
	case 3, 4:
		got = p.d.Sync(area)
		if want = p.write(); want == api.OK {
			*a = plain{sure: a.sure + a.rest}
		}
	case 5:
		all := a.sure + a.rest
		n := rnd.Intn(len(all)+3) - 1
		got = p.d.Cut(area, n)
		if n < 0 || n > len(all) {
			return got, api.ErrArg
		}
		if want = p.write(); want == api.OK {
			*a = plain{sure: all[:n]}
		}
	case 6:
		if rnd.Intn(4) == 0 {
			p.left = rnd.Intn(8)
			p.d.Arm(p.left)
		}
	case 7:
		if p.lost || rnd.Intn(20) == 0 {
			p.crash([2]uint16{uint16(rnd.Intn(1 << 16)), uint16(rnd.Intn(1 << 16))})
		}
	}
	return got, want
}

func (p *disks) crash(keep [2]uint16) {
	p.d.Crash(keep)
	for i, a := range p.areas {
		p.areas[i] = plain{sure: a.sure + a.rest[:int(keep[i])%(len(a.rest)+1)]}
	}
	p.lost, p.left = false, -1
}

func TestAnyCalls(t *testing.T) { // P5.1 to P5.5
	rnd := rand.New(rand.NewSource(6))
	for range 200 {
		room := rnd.Intn(80)
		p := &disks{d: disk.New(room), room: room, left: -1}
		for range 300 {
			was := p.areas
			got, want := p.step(rnd)
			if got != want || p.d.Room() != p.free() || p.d.Lost() != p.lost || p.free() < 0 {
				t.Fatalf("told %d, want %d; room %d, want %d; lost %v, want %v", got, want, p.d.Room(), p.free(), p.d.Lost(), p.lost)
			}
			p.compare(t, was)
		}
	}
}

func TestSureStays(t *testing.T) { // P5.5
	for n := range 8 {
		for name, write := range writes() {
			for keep := range uint16(8) {
				d := filled(t)
				d.Arm(n)
				for range 5 {
					d.Append(0, []byte("x"))
				}
				write(d)
				d.Crash([2]uint16{keep, keep})
				first, _ := d.Read(0)
				other, _ := d.Read(1)
				cut := name == "Cut" && n > 5
				if !strings.HasPrefix(string(first), "ab") || !cut && !strings.HasPrefix(string(other), "123") {
					t.Errorf("armed with %d, %s, keep %d: %q, %q", n, name, keep, first, other)
				}
				if len(first)+len(other) > 20 {
					t.Errorf("%d bytes on a disk of 20", len(first)+len(other))
				}
			}
		}
	}
}

func (p *disks) compare(t *testing.T, was [2]plain) {
	t.Helper()
	for i, a := range p.areas {
		if p.d.Sure(i) != len(a.sure) {
			t.Fatalf("%v: %d sure, want %d", was, p.d.Sure(i), len(a.sure))
		}
		b, e := p.d.Read(i)
		if p.lost {
			if b != nil || e != api.ErrLost {
				t.Fatalf("Read of a lost disk: %q, %d", b, e)
			}
		} else if !bytes.Equal(b, []byte(a.sure+a.rest)) || e != api.OK {
			t.Fatalf("%v: Read: %q, %d, want %q", was, b, e, a.sure+a.rest)
		}
	}
}
