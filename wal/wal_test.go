package wal_test

import (
	"encoding/binary"
	"hash/crc32"
	"math"
	"math/rand"
	"slices"
	"strings"
	"testing"

	"sautoir/api"
	"sautoir/disk"
	"sautoir/wal"
)

// framed answers the frames of some records, put together by the chapters' words.
func framed(records ...string) string {
	var out []byte
	for _, p := range records {
		body := append([]byte{byte(len(p) / 256), byte(len(p) % 256)}, p...)
		out = binary.LittleEndian.AppendUint32(append(append(out, 0xC5), body...), crc32.ChecksumIEEE(body))
	}
	return string(out)
}

// headed answers the frames of a generation: its head, that says count, and records.
func headed(gen, count uint64, records ...string) string {
	head := binary.AppendUvarint(binary.AppendUvarint([]byte("G"), gen), count)
	return framed(append([]string{string(head)}, records...)...)
}

// holding answers a disk with those bytes in its areas, of which the first ones are sure.
func holding(t *testing.T, room int, areas [2]string, sure [2]int) *disk.Disk {
	t.Helper()
	d := disk.New(room)
	for i, s := range areas {
		if d.Append(i, []byte(s[:sure[i]])) != api.OK || d.Sync(i) != api.OK || d.Append(i, []byte(s[sure[i]:])) != api.OK {
			t.Fatal("no room for what a disk shall hold")
		}
	}
	return d
}

// surely answers a disk with those bytes in its areas, all of them sure.
func surely(t *testing.T, room int, first, other string) *disk.Disk {
	t.Helper()
	return holding(t, room, [2]string{first, other}, [2]int{len(first), len(other)})
}

func mustOpen(t *testing.T, d *disk.Disk) (*wal.Log, []string) {
	t.Helper()
	l, records, e := wal.Open(d)
	if e != api.OK || l == nil || l.Dead() {
		t.Fatalf("Open: %d", e)
	}
	return l, texts(records)
}

func texts(records [][]byte) []string {
	var out []string
	for _, p := range records {
		out = append(out, string(p))
	}
	return out
}

func list(records ...string) [][]byte {
	var out [][]byte
	for _, p := range records {
		out = append(out, []byte(p))
	}
	return out
}

// expect holds both areas against their bytes, all of which are sure.
func expect(t *testing.T, what string, d *disk.Disk, first, other string) {
	t.Helper()
	for i, want := range [2]string{first, other} {
		if b, e := d.Read(i); string(b) != want || e != api.OK || d.Sure(i) != len(want) {
			t.Errorf("%s: area %d: %q, %d, %d sure; want %q", what, i, b, e, d.Sure(i), want)
		}
	}
}

func ok(t *testing.T, what string, e api.Errno) {
	t.Helper()
	if e != api.OK {
		t.Fatalf("%s: %d", what, e)
	}
}

// countWrites answers how many writes a call does on a disk that is made anew each time.
func countWrites(t *testing.T, call func(n int) api.Errno) int {
	t.Helper()
	for n := range 10 {
		if call(n) != api.ErrLost {
			return n
		}
	}
	t.Fatal("more than nine writes")
	return 0
}

const max64 = math.MaxUint64

func TestOpenOfNoDisk(t *testing.T) { // P6.1, P1
	if l, records, e := wal.Open(nil); l != nil || records != nil || e != api.ErrNil {
		t.Errorf("no disk: %v, %v, %d", l, records, e)
	}
	for _, d := range []*disk.Disk{surely(t, 100, headed(3, 0, "a"), ""), surely(t, 18, headed(3, 0, "a"), ""), disk.New(100), disk.New(9)} {
		d.Arm(0)
		d.Sync(0)
		if l, records, e := wal.Open(d); l != nil || records != nil || e != api.ErrLost {
			t.Errorf("a lost disk: %v, %v, %d", l, records, e)
		}
	}
	var by disk.Disk
	if l, records, e := wal.Open(&by); l != nil || records != nil || e != api.ErrFull {
		t.Errorf("a disk with no room: %v, %v, %d", l, records, e)
	}
}

func TestOpenAnew(t *testing.T) { // P6.1
	d := disk.New(10)
	l, got := mustOpen(t, d)
	if got != nil || l.Gen() != 1 || l.Room() != 0 {
		t.Errorf("a new log: %q, generation %d, room %d", got, l.Gen(), l.Room())
	}
	expect(t, "a new log", d, headed(1, 0), "")
	if l, _, e := wal.Open(disk.New(9)); l != nil || e != api.ErrFull {
		t.Errorf("a disk without room for a head: %d", e)
	}
}

// torn are bytes of an area that is not whole.
func torn() map[string]string {
	head := headed(7, 2, "a", "b")
	return map[string]string{
		"one byte":            "x",
		"no frame":            "xyzxyzxyz",
		"a torn head":         headed(7, 0)[:9],
		"a head's beginning":  headed(7, 0)[:1],
		"a head's sum":        headed(7, 0)[:9] + "\x00",
		"no head":             framed("a", "b"),
		"a head, but later":   framed("a") + headed(7, 0),
		"another letter":      framed("H\x07\x00"),
		"a small letter":      framed("g\x07\x00"),
		"no numbers":          framed("G"),
		"one number":          framed("G\x07"),
		"three numbers":       framed("G\x07\x00\x00"),
		"a long number":       framed("G\x87\x00\x00"),
		"a number too great":  framed("G\xff\xff\xff\xff\xff\xff\xff\xff\xff\x02\x00"),
		"half a number":       framed("G\x07\x80"),
		"a record too few":    headed(7, 2, "a"),
		"no record of one":    headed(7, 1),
		"a torn record":       head[:len(head)-1],
		"a garbled record":    head[:len(head)-1] + "\x00",
		"a record to be torn": headed(7, 1) + "x" + framed("a"),
		"most records":        headed(7, max64, "a", "b"),
		"2^63 records":        headed(7, 1<<63, "a"),
		"2^32 records":        headed(7, 1<<32),
	}
}

func TestOpenOfNothingWhole(t *testing.T) { // P6.1
	for name, s := range torn() {
		for _, other := range []string{"", "y", s} {
			for _, sure := range []int{0, 1} {
				d := holding(t, 200, [2]string{s, other}, [2]int{sure, min(sure, len(other))})
				l, got := mustOpen(t, d)
				if got != nil || l.Gen() != 1 {
					t.Errorf("%s: %q, generation %d", name, got, l.Gen())
				}
				expect(t, name, d, headed(1, 0), "")
			}
		}
		d := surely(t, 200, "", s)
		if l, got := mustOpen(t, d); got != nil || l.Gen() != 1 {
			t.Errorf("%s, area 1: %q, generation %d", name, got, l.Gen())
		}
		expect(t, name+", area 1", d, headed(1, 0), "")
	}
}

func TestOpenOfOneWhole(t *testing.T) { // P6.1
	for name, s := range torn() {
		for _, c := range []struct {
			gen, count uint64
			records    []string
		}{
			{1, 0, nil}, {1, 0, []string{"a"}}, {5, 2, []string{"a", "bc"}}, {5, 2, []string{"a", "bc", "def", "G\x09\x00"}}, {max64, 1, []string{"a"}}, {0, 0, nil},
		} {
			whole := headed(c.gen, c.count, c.records...)
			for at := range 2 {
				areas := [2]string{s, s}
				areas[at] = whole
				d := surely(t, 300, areas[0], areas[1])
				l, got := mustOpen(t, d)
				if !slices.Equal(got, c.records) || l.Gen() != c.gen {
					t.Errorf("%s beside generation %d in %d: %q, generation %d", name, c.gen, at, got, l.Gen())
				}
				areas[1-at] = ""
				expect(t, name, d, areas[0], areas[1])
			}
		}
	}
}

func TestOpenOfTwoWhole(t *testing.T) { // P6.1
	for _, c := range [][2]uint64{{1, 2}, {2, 1}, {3, 3}, {0, 0}, {0, 1}, {127, 128}, {255, 256}, {max64, 1}, {max64 - 1, max64}, {max64, max64}, {1 << 63, 1<<63 - 1}} {
		areas := [2]string{headed(c[0], 1, "first", "a"), headed(c[1], 0, "other")}
		want, gen := []string{"first", "a"}, c[0]
		if c[1] > c[0] {
			want, gen = []string{"other"}, c[1]
		}
		d := surely(t, 200, areas[0], areas[1])
		l, got := mustOpen(t, d)
		if !slices.Equal(got, want) || l.Gen() != gen {
			t.Errorf("generations %d and %d: %q, generation %d", c[0], c[1], got, l.Gen())
		}
		if c[1] > c[0] {
			expect(t, "the other", d, "", areas[1])
		} else {
			expect(t, "the first", d, areas[0], "")
		}
	}
}

func TestOpenCutsBehind(t *testing.T) { // P6.1
	whole := headed(4, 1, "a", "b")
	for _, behind := range []string{"x", "\xc5", "\x00", framed("c")[:7], framed("c")[:7] + "\x00", "x" + framed("c")} {
		for _, sure := range []int{0, 5, len(whole), len(whole) + 1} {
			d := holding(t, 100, [2]string{"", whole + behind}, [2]int{0, sure})
			if _, got := mustOpen(t, d); !slices.Equal(got, []string{"a", "b"}) {
				t.Errorf("%q behind: %q", behind, got)
			}
			expect(t, "what was cut", d, "", whole)
		}
	}
}

func TestOpenSyncs(t *testing.T) { // P6.1
	whole := headed(4, 1, "a", "b")
	for sure := range len(whole) + 1 {
		d := holding(t, 100, [2]string{whole, ""}, [2]int{sure, 0})
		if _, got := mustOpen(t, d); !slices.Equal(got, []string{"a", "b"}) {
			t.Errorf("%d sure: %q", sure, got)
		}
		expect(t, "what was synced", d, whole, "")
	}
}

func TestWritesOfOpen(t *testing.T) { // P6.1
	whole := headed(2, 0, "a")
	for _, c := range []struct {
		name   string
		areas  [2]string
		sure   [2]int
		writes int
	}{
		{"nothing", [2]string{}, [2]int{}, 2},
		{"something in area 0", [2]string{"x", ""}, [2]int{1, 0}, 3},
		{"something in area 1", [2]string{"", "x"}, [2]int{0, 1}, 3},
		{"something in both", [2]string{"x", "y"}, [2]int{1, 0}, 4},
		{"a sure log", [2]string{whole, ""}, [2]int{len(whole), 0}, 0},
		{"a log", [2]string{whole, ""}, [2]int{len(whole) - 1, 0}, 1},
		{"a torn log", [2]string{"", whole + "x"}, [2]int{0, 0}, 1},
		{"a torn log, sure", [2]string{"", whole + "x"}, [2]int{0, len(whole) + 1}, 1},
		{"a sure log, and another area", [2]string{"x", whole}, [2]int{0, len(whole)}, 1},
		{"a log, and another area", [2]string{"x", whole}, [2]int{1, 0}, 2},
		{"two logs, one torn", [2]string{headed(1, 0), whole + "x"}, [2]int{10, 3}, 2},
	} {
		got := countWrites(t, func(n int) api.Errno {
			d := holding(t, 100, c.areas, c.sure)
			d.Arm(n)
			l, records, e := wal.Open(d)
			if e != api.OK && (l != nil || records != nil) {
				t.Errorf("%s: %v, %v with %d", c.name, l, records, e)
			}
			return e
		})
		if got != c.writes {
			t.Errorf("Open of %s: %d writes, want %d", c.name, got, c.writes)
		}
	}
}

func TestAddAndSync(t *testing.T) { // P6.2
	d := disk.New(200)
	l, _ := mustOpen(t, d)
	want := headed(1, 0)
	for i, p := range []string{"a", "bc", "a", "G\x01\x00", "\xc5\x00\x01"} {
		ok(t, "Add", l.Add([]byte(p)))
		sure := d.Sure(0)
		if b, _ := d.Read(0); string(b) != want+framed(p) || sure != len(want) || l.Room() != d.Room() {
			t.Errorf("Add %d: %q, %d sure", i, b, sure)
		}
		want += framed(p)
		ok(t, "Sync", l.Sync())
		expect(t, "Sync", d, want, "")
	}
	if _, got := mustOpen(t, d); !slices.Equal(got, []string{"a", "bc", "a", "G\x01\x00", "\xc5\x00\x01"}) {
		t.Errorf("opened again: %q", got)
	}
}

func TestAddOfNoRecord(t *testing.T) { // P6.2
	d := disk.New(1 << 20)
	l, _ := mustOpen(t, d)
	ok(t, "Append", d.Append(1, []byte("x")))
	ok(t, "Sync", d.Sync(1))
	d.Arm(0)
	for _, p := range [][]byte{nil, {}, make([]byte, 65536), make([]byte, 1<<20)} {
		if e := l.Add(p); e != api.ErrArg || l.Dead() {
			t.Errorf("Add of %d bytes: %d", len(p), e)
		}
		if e := l.Compact([][]byte{[]byte("a"), p}); e != api.ErrArg || l.Dead() {
			t.Errorf("Compact to one of %d bytes: %d", len(p), e)
		}
		if e := l.Compact([][]byte{p, []byte("a")}); e != api.ErrArg {
			t.Errorf("Compact to one of %d bytes, ahead of another: %d", len(p), e)
		}
	}
	expect(t, "no record", d, headed(1, 0), "x")
	d.Crash([2]uint16{})
	most := strings.Repeat("m", 65535)
	ok(t, "Add of the longest record", l.Add([]byte(most)))
	if _, got := mustOpen(t, d); !slices.Equal(got, []string{most}) {
		t.Error("the longest record")
	}
}

func TestAddWithoutRoom(t *testing.T) { // P6.2
	d := disk.New(30)
	l, _ := mustOpen(t, d)
	if e := l.Add(make([]byte, 14)); e != api.ErrFull || l.Dead() || l.Room() != 20 {
		t.Errorf("a byte too many: %d", e)
	}
	ok(t, "Add", l.Add(make([]byte, 13)))
	if e := l.Add([]byte("a")); e != api.ErrFull || l.Room() != 0 || l.Dead() {
		t.Errorf("no room: %d", e)
	}
	ok(t, "Sync", l.Sync())
	expect(t, "a full disk", d, headed(1, 0)+framed(string(make([]byte, 13))), "")
}

func TestCompact(t *testing.T) { // P6.2
	d := disk.New(300)
	l, _ := mustOpen(t, d)
	for i, records := range [][]string{{"a", "b"}, nil, {"c"}, {"G\x09\x00", "d", "e", "f"}} {
		ok(t, "Add", l.Add([]byte("elder")))
		gen := uint64(i + 2)
		ok(t, "Compact", l.Compact(list(records...)))
		areas := [2]string{}
		areas[(i+1)%2] = headed(gen, uint64(len(records)), records...)
		expect(t, "Compact", d, areas[0], areas[1])
		if l.Gen() != gen || l.Dead() || l.Room() != 300-len(areas[(i+1)%2]) {
			t.Errorf("Compact %d: generation %d, room %d", i, l.Gen(), l.Room())
		}
		ok(t, "Add", l.Add([]byte("later")))
		ok(t, "Sync", l.Sync())
		areas[(i+1)%2] += framed("later")
		expect(t, "behind Compact", d, areas[0], areas[1])
		var got []string
		if l, got = mustOpen(t, d); !slices.Equal(got, append(records, "later")) || l.Gen() != gen {
			t.Errorf("Compact %d: opened again: %q, generation %d", i, got, l.Gen())
		}
	}
}

func TestGreatestGeneration(t *testing.T) { // P6.2
	whole := headed(max64, 0, "a")
	d := surely(t, 100, whole, "")
	l, _ := mustOpen(t, d)
	d.Append(1, []byte("x"))
	d.Sync(1)
	if e := l.Compact(list("b")); e != api.ErrFull || l.Gen() != max64 || l.Dead() {
		t.Errorf("Compact: %d, generation %d", e, l.Gen())
	}
	if e := l.Compact(list("b", "")); e != api.ErrArg {
		t.Errorf("Compact to no record: %d", e)
	}
	expect(t, "no greater generation", d, whole, "x")
	ok(t, "Add", l.Add([]byte("c")))
	d = surely(t, 100, headed(max64-1, 0), "")
	l, _ = mustOpen(t, d)
	if l.Compact(nil) != api.OK || l.Gen() != max64 || l.Compact(nil) != api.ErrFull || l.Gen() != max64 {
		t.Error("the generation ahead of the greatest one")
	}
	expect(t, "the greatest generation", d, "", headed(max64, 0))
}

func TestCompactWithoutRoom(t *testing.T) { // P6.2
	d := disk.New(60)
	l, _ := mustOpen(t, d)
	for _, records := range [][][]byte{{make([]byte, 34)}, {make([]byte, 20), make([]byte, 8)}, slices.Repeat([][]byte{make([]byte, 65535)}, 1<<16)} {
		if e := l.Compact(records); e != api.ErrFull || l.Dead() || l.Gen() != 1 || l.Room() != 50 {
			t.Errorf("Compact to %d records: %d, generation %d, room %d", len(records), e, l.Gen(), l.Room())
		}
		expect(t, "no room", d, headed(1, 0), "")
	}
	ok(t, "Compact to just as much", l.Compact([][]byte{make([]byte, 20), make([]byte, 6)}))
	expect(t, "just as much", d, "", headed(2, 2, string(make([]byte, 20)), string(make([]byte, 6))))
}

func TestCompactCutsTheOther(t *testing.T) { // P6.2
	d := disk.New(60)
	l, _ := mustOpen(t, d)
	d.Append(1, make([]byte, 30))
	if e := l.Compact([][]byte{make([]byte, 34)}); e != api.ErrFull {
		t.Errorf("no room: %d", e)
	}
	// What stood in the other area has gone, though the new generation has no room.
	expect(t, "no room", d, headed(1, 0), "")
	d.Append(1, make([]byte, 50))
	ok(t, "Compact", l.Compact(list(strings.Repeat("a", 33))))
	expect(t, "room by what was cut", d, "", headed(2, 1, strings.Repeat("a", 33)))
}

func TestWritesOfEach(t *testing.T) { // P6.2
	for name, c := range map[string]struct {
		call   func(l *wal.Log, d *disk.Disk) api.Errno
		writes int
	}{
		"Add":                {func(l *wal.Log, d *disk.Disk) api.Errno { return l.Add([]byte("a")) }, 1},
		"Sync":               {func(l *wal.Log, d *disk.Disk) api.Errno { return l.Sync() }, 1},
		"Compact":            {func(l *wal.Log, d *disk.Disk) api.Errno { return l.Compact(list("a", "b", "c")) }, 3},
		"Compact to nothing": {func(l *wal.Log, d *disk.Disk) api.Errno { return l.Compact(nil) }, 3},
	} {
		for extra, before := range []string{"", "x"} {
			got := countWrites(t, func(n int) api.Errno {
				d := disk.New(100)
				l, _ := mustOpen(t, d)
				d.Append(1, []byte(before))
				d.Arm(n)
				e := c.call(l, d)
				if l.Dead() != (e == api.ErrLost) {
					t.Errorf("%s: %d, dead %v", name, e, l.Dead())
				}
				return e
			})
			want := c.writes
			if want == 3 {
				want += extra
			}
			if got != want {
				t.Errorf("%s, %q in the other area: %d writes, want %d", name, before, got, want)
			}
		}
	}
}

func TestDead(t *testing.T) { // P6.2
	for name, call := range map[string]func(l *wal.Log) api.Errno{
		"Add":     func(l *wal.Log) api.Errno { return l.Add([]byte("a")) },
		"Sync":    func(l *wal.Log) api.Errno { return l.Sync() },
		"Compact": func(l *wal.Log) api.Errno { return l.Compact(list("a")) },
	} {
		d := surely(t, 100, headed(3, 0), "")
		l, _ := mustOpen(t, d)
		d.Arm(0)
		d.Sync(1)
		if !d.Lost() || l.Dead() || l.Gen() != 3 || l.Room() != 90 || l.Add(nil) != api.ErrArg || l.Add(make([]byte, 99)) != api.ErrFull {
			t.Errorf("%s: a log whose disk has not told it yet", name)
		}
		if e := call(l); e != api.ErrLost || !l.Dead() {
			t.Errorf("%s: %d, dead %v", name, e, l.Dead())
		}
		// A crash brings the disk back, not the log.
		d.Crash([2]uint16{})
		for range 2 {
			if !l.Dead() || l.Gen() != 0 || l.Room() != 0 || l.Add([]byte("a")) != api.ErrLost || l.Add(nil) != api.ErrLost || l.Sync() != api.ErrLost || l.Compact(nil) != api.ErrLost || l.Compact(list("")) != api.ErrLost {
				t.Errorf("%s: a dead log", name)
			}
		}
		if l, _ = mustOpen(t, d); l.Gen() != 3 || l.Room() != 90 {
			t.Errorf("%s: opened again: generation %d, room %d", name, l.Gen(), l.Room())
		}
	}
}

func TestCompactOfALostDisk(t *testing.T) { // P6.2
	lost := func(other string) (*wal.Log, *disk.Disk) {
		d := disk.New(60)
		l, _ := mustOpen(t, d)
		d.Append(1, []byte(other))
		d.Arm(0)
		d.Sync(1)
		return l, d
	}
	great := list(strings.Repeat("a", 40))
	if l, _ := lost(""); l.Compact(great) != api.ErrFull || l.Dead() || l.Compact(list("")) != api.ErrArg || l.Compact(list("a")) != api.ErrLost || !l.Dead() {
		t.Error("nothing in the other area: what has no room is no write")
	}
	for _, other := range []string{"x", "xy"} {
		l, d := lost(other)
		if l.Compact(great) != api.ErrLost || !l.Dead() {
			t.Errorf("%q in the other area: to cut that is a write", other)
		}
		if d.Crash([2]uint16{0, uint16(len(other))}); d.Sure(1) != len(other) {
			t.Errorf("%q in the other area was cut", other)
		}
	}
}

func TestNoLog(t *testing.T) { // P6.2, P1
	var l *wal.Log
	if l.Add(nil) != api.ErrNil || l.Add([]byte("a")) != api.ErrNil || l.Sync() != api.ErrNil || l.Compact(nil) != api.ErrNil || l.Compact(list("")) != api.ErrNil || l.Gen() != 0 || l.Room() != 0 || !l.Dead() {
		t.Error("no log")
	}
	by := new(wal.Log)
	if by.Add([]byte("a")) == api.OK || by.Sync() == api.OK || by.Compact(nil) == api.OK || by.Gen() != 0 || by.Room() != 0 || by.Dead() {
		t.Error("a log that was not opened")
	}
}

func TestOwnMemory(t *testing.T) { // P1
	d := disk.New(200)
	l, _ := mustOpen(t, d)
	p, records := []byte("abc"), list("de", "fg")
	ok(t, "Compact", l.Compact(records))
	ok(t, "Add", l.Add(p))
	copy(p, "???")
	copy(records[0], "??")
	records[1] = nil
	_, got, _ := wal.Open(d)
	if !slices.Equal(texts(got), []string{"de", "fg", "abc"}) {
		t.Fatalf("what was handed in is kept: %q", texts(got))
	}
	for i, p := range got {
		if string(p) != []string{"de", "fg", "abc"}[i] {
			t.Errorf("two records share memory: %q", p)
		}
		for j := range p[:cap(p)] {
			p[:cap(p)][j] = '!'
		}
	}
	if _, again := mustOpen(t, d); !slices.Equal(again, []string{"de", "fg", "abc"}) {
		t.Errorf("what is answered is kept: %q", again)
	}
}

// kept is what a log must tell, by P6.3, when it is opened behind a crash.
type kept struct {
	synced  []string
	added   []string   // behind those
	compact [][]string // handed to the Compact at which it was lost, if it was
}

// allows tells whether got may be told.
func (k kept) allows(got []string) bool {
	for _, c := range k.compact {
		if slices.Equal(got, c) {
			return true
		}
	}
	n := len(k.synced)
	all := slices.Concat(k.synced, k.added)
	return len(got) >= n && len(got) <= len(all) && slices.Equal(got, all[:len(got)])
}

// asked is one thing that a script asks a log: A and a record, S, C and some records.
type asked struct {
	what    byte
	records []string
}

func script() []asked {
	return []asked{
		{'A', []string{"one"}}, {'A', []string{"two"}}, {'S', nil}, {'A', []string{"three"}},
		{'C', []string{"x", "yy"}}, {'A', []string{"four"}}, {'A', []string{"G\x09\x00"}}, {'S', nil},
		{'C', nil}, {'A', []string{"five"}}, {'C', []string{"z"}}, {'S', nil}, {'A', []string{"six"}},
	}
}

// run asks a log what the script says, till the disk is lost; it answers what P6.3 lets stand then.
func run(t *testing.T, l *wal.Log, k kept, script []asked) (kept, bool) {
	t.Helper()
	for _, a := range script {
		switch a.what {
		case 'A':
			k.added = append(slices.Clone(k.added), a.records[0])
			if l.Add([]byte(a.records[0])) == api.ErrLost {
				return k, true
			}
		case 'S':
			if l.Sync() == api.ErrLost {
				return k, true
			}
			k = kept{synced: slices.Concat(k.synced, k.added)}
		case 'C':
			if l.Compact(list(a.records...)) == api.ErrLost {
				k.compact = [][]string{a.records}
				return k, true
			}
			k = kept{synced: a.records}
		}
	}
	return k, false
}

func TestSureAtEachWrite(t *testing.T) { // P6.3
	for n := 0; ; n++ {
		lost := false
		for keep := range uint16(64) {
			d := disk.New(500)
			d.Arm(n)
			k := kept{}
			l, _, e := wal.Open(d)
			if lost = e == api.ErrLost; !lost {
				k, lost = run(t, l, k, script())
			}
			d.Crash([2]uint16{keep, keep})
			openAtEachWrite(t, d, k, n, keep)
		}
		if !lost {
			return
		}
	}
}

// openAtEachWrite opens a disk behind a crash: it is lost at the first write, opened again, lost at the second one, and so on.
func openAtEachWrite(t *testing.T, d *disk.Disk, k kept, n int, keep uint16) {
	t.Helper()
	for m := 0; ; m++ {
		d.Arm(m)
		l, records, e := wal.Open(d)
		if e == api.ErrLost {
			d.Crash([2]uint16{keep * 7, keep * 5})
			continue
		}
		if e != api.OK || !k.allows(texts(records)) {
			t.Fatalf("lost at write %d, keep %d: Open tells %q, %d; synced %q, added %q, compact %q", n, keep, texts(records), e, k.synced, k.added, k.compact)
		}
		d.Crash([2]uint16{})
		again, got := mustOpen(t, d)
		if !slices.Equal(got, texts(records)) || again.Gen() == 0 || l.Dead() {
			t.Fatalf("lost at write %d, keep %d: what Open told, %q, is not sure: %q", n, keep, texts(records), got)
		}
		return
	}
}

// anything answers some things to ask, whatever they are.
func anything(rnd *rand.Rand) []asked {
	var out []asked
	for range rnd.Intn(12) {
		a := asked{what: "AAASC"[rnd.Intn(5)]}
		for range 1 + rnd.Intn(3) {
			a.records = append(a.records, strings.Repeat(string(rune('a'+rnd.Intn(26))), 1+rnd.Intn(9)))
		}
		out = append(out, a)
	}
	return out
}

func TestSureBehindManyCrashes(t *testing.T) { // P6.3
	rnd := rand.New(rand.NewSource(7))
	for range 3000 {
		d := disk.New(2000)
		k := kept{}
		for range 8 {
			if rnd.Intn(4) > 0 {
				d.Arm(rnd.Intn(14))
			}
			l, records, e := wal.Open(d)
			if e == api.OK {
				if !k.allows(texts(records)) {
					t.Fatalf("Open tells %q; synced %q, added %q, compact %q", texts(records), k.synced, k.added, k.compact)
				}
				k, _ = run(t, l, kept{synced: texts(records)}, anything(rnd))
			}
			if e == api.OK || d.Lost() || rnd.Intn(2) == 0 {
				d.Crash([2]uint16{uint16(rnd.Intn(1 << 16)), uint16(rnd.Intn(1 << 16))})
			}
		}
	}
}

func TestExample(t *testing.T) { // P6.3
	d := disk.New(100)
	l, _ := mustOpen(t, d)
	if l.Add([]byte("a")) != api.OK || l.Sync() != api.OK || l.Add([]byte("b")) != api.OK {
		t.Fatal("Add, Sync")
	}
	d.Crash([2]uint16{})
	if _, got := mustOpen(t, d); !slices.Equal(got, []string{"a"}) {
		t.Errorf("two records, a Sync between them: %q", got)
	}
}

func TestAnyBytes(t *testing.T) { // P1
	rnd := rand.New(rand.NewSource(8))
	parts := []string{"", "x", "\xc5", headed(1, 0), headed(2, 1), headed(max64, max64), headed(3, 2), framed("a"), framed("G"), framed("b")[:5]}
	for range 20000 {
		var areas [2]string
		var sure [2]int
		for i := range areas {
			for range rnd.Intn(5) {
				areas[i] += parts[rnd.Intn(len(parts))]
			}
			sure[i] = rnd.Intn(len(areas[i]) + 1)
		}
		d := holding(t, 300, areas, sure)
		l, got := mustOpen(t, d)
		b, _ := d.Read(0)
		other, _ := d.Read(1)
		if len(b) > 0 && len(other) > 0 || d.Sure(0) != len(b) || d.Sure(1) != len(other) {
			t.Fatalf("%q: both areas have bytes, or not all are sure: %q, %q", areas, b, other)
		}
		if again, same := mustOpen(t, d); !slices.Equal(got, same) || again.Gen() != l.Gen() {
			t.Fatalf("%q: opened again: %q, %q", areas, got, same)
		}
	}
}
