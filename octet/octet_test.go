package octet_test

import (
	"bytes"
	"encoding/binary"
	"math"
	"math/rand"
	"strings"
	"testing"

	"sautoir/octet"
)

// numbers are the edges of each length of a number's bytes, and some between.
func numbers() []uint64 {
	out := []uint64{0, 1, 2, 5, 300, math.MaxInt64, 1 << 63, math.MaxUint64 - 1, math.MaxUint64}
	for bits := 7; bits < 64; bits += 7 {
		edge := uint64(1) << bits
		out = append(out, edge-1, edge, edge+1)
	}
	return out
}

func texts() []string {
	return []string{"", "a", "abc", "\x00", "\xff\x80", "ä€", strings.Repeat("x", 127), strings.Repeat("y", 128), strings.Repeat("z", 70000)}
}

func TestPutExamples(t *testing.T) { // P1.1
	for _, c := range []struct {
		n    uint64
		want []byte
	}{
		{0, []byte{0}},
		{1, []byte{1}},
		{127, []byte{127}},
		{128, []byte{128, 1}},
		{300, []byte{172, 2}},
		{16383, []byte{255, 127}},
		{16384, []byte{128, 128, 1}},
		{1 << 63, []byte{128, 128, 128, 128, 128, 128, 128, 128, 128, 1}},
		{math.MaxUint64, []byte{255, 255, 255, 255, 255, 255, 255, 255, 255, 1}},
	} {
		if got := octet.Put(nil, c.n); !bytes.Equal(got, c.want) {
			t.Errorf("Put(nil, %d) = %v, want %v", c.n, got, c.want)
		}
	}
}

func TestPutStandsBehind(t *testing.T) { // P1.1
	for _, n := range numbers() {
		want := binary.AppendUvarint([]byte("ahead"), n)
		if got := octet.Put([]byte("ahead"), n); !bytes.Equal(got, want) {
			t.Errorf("Put(ahead, %d) = %v, want %v", n, got, want)
		}
	}
}

func TestTextStandsBehind(t *testing.T) { // P1.1
	for _, s := range texts() {
		want := append(binary.AppendUvarint([]byte("ahead"), uint64(len(s))), s...)
		if got := octet.Text([]byte("ahead"), s); !bytes.Equal(got, want) {
			t.Errorf("Text(ahead, %.10q): %d bytes, want %d", s, len(got), len(want))
		}
	}
	if got := octet.Text(nil, ""); !bytes.Equal(got, []byte{0}) {
		t.Errorf("Text(nil, nothing) = %v", got)
	}
}

func TestPutLeavesItsArgument(t *testing.T) { // P1.1, rules 4 and 5
	for name, call := range map[string]func([]byte) []byte{
		"Put":     func(b []byte) []byte { return octet.Put(b, 300) },
		"Text":    func(b []byte) []byte { return octet.Text(b, "xyz") },
		"no text": func(b []byte) []byte { return octet.Text(b, "") },
	} {
		room := []byte("abcdefghijklmnop")
		got := call(room[:3])
		if string(room) != "abcdefghijklmnop" {
			t.Errorf("%s wrote behind what it was given: %q", name, room)
		}
		before := string(got)
		copy(room, "????????????????")
		if string(got) != before {
			t.Errorf("%s: the answer shares memory with its argument", name)
		}
		got[0] = '!'
		if room[0] != '?' {
			t.Errorf("%s: the argument shares memory with the answer", name)
		}
	}
}

func TestAnswersAreApart(t *testing.T) { // P1.1, rule 4
	for name, call := range map[string]func() []byte{
		"Put":  func() []byte { return octet.Put(nil, 1) },
		"Text": func() []byte { return octet.Text([]byte("ab"), "c") },
	} {
		b := call()
		one, two := append(b, 7), append(b, 8)
		if one[len(b)] != 7 || two[len(b)] != 8 {
			t.Errorf("%s: what is appended twice is shared", name)
		}
		put, text := octet.Put(b, 5), octet.Text(b, "q")
		if put[len(b)] != 5 || text[len(b)] != 1 {
			t.Errorf("%s: two answers behind the same bytes share memory", name)
		}
	}
}

func TestNReadsAll(t *testing.T) { // P1.2, P1.3
	var b []byte
	for _, n := range numbers() {
		b = octet.Put(b, n)
	}
	r := octet.New(b)
	left := len(b)
	for _, n := range numbers() {
		if got := r.N(); got != n {
			t.Fatalf("N() = %d, want %d", got, n)
		}
		left -= len(octet.Put(nil, n))
		if r.Left() != left || r.Bad() || r.Done() != (left == 0) {
			t.Fatalf("behind %d: Left %d of %d, Bad %v, Done %v", n, r.Left(), left, r.Bad(), r.Done())
		}
	}
	if r.N() != 0 {
		t.Error("a number behind the last one")
	}
	expectBad(t, "N at the end", r)
}

// expectBad holds all that a bad reader must answer.
func expectBad(t *testing.T, name string, r *octet.Reader) {
	t.Helper()
	for range 2 {
		if !r.Bad() || r.Done() || r.Left() != 0 {
			t.Errorf("%s: Bad %v, Done %v, Left %d", name, r.Bad(), r.Done(), r.Left())
		}
		if r.N() != 0 || r.Int(9) != 0 || r.Int(-1) != 0 || r.Text(9) != "" || r.Text(-1) != "" || r.Flag() {
			t.Errorf("%s: a bad reader tells something", name)
		}
	}
}

// ends is what may stand behind a thing that can't be read; it must not be read either.
const ends = "\x01\x01\x01"

func TestNoNumber(t *testing.T) { // P1.2
	for _, s := range []string{
		"", "\x80", "\xff\xff", "\xff\xff\xff\xff\xff\xff\xff\xff\xff", // bytes are missing
		"\x80\x00", "\x81\x00", "\x80\x80\x00", "\xff\xff\xff\xff\xff\xff\xff\xff\xff\x00", // more than it needs
		"\xff\xff\xff\xff\xff\xff\xff\xff\xff\x02", "\x80\x80\x80\x80\x80\x80\x80\x80\x80\x02", // above 2^64 - 1
		"\x80\x80\x80\x80\x80\x80\x80\x80\x80\x7f", "\x80\x80\x80\x80\x80\x80\x80\x80\x80\x80\x01",
		"\x81\x80\x80\x80\x80\x80\x80\x80\x80\x80\x00", strings.Repeat("\x80", 100), strings.Repeat("\xff", 100) + "\x01",
	} {
		for name, read := range map[string]func(*octet.Reader) bool{
			"N":    func(r *octet.Reader) bool { return r.N() == 0 },
			"Int":  func(r *octet.Reader) bool { return r.Int(math.MaxInt) == 0 },
			"Text": func(r *octet.Reader) bool { return r.Text(math.MaxInt) == "" },
			"Flag": func(r *octet.Reader) bool { return !r.Flag() },
		} {
			r := octet.New([]byte(s))
			if !read(r) {
				t.Errorf("%s of %q tells something", name, s)
			}
			expectBad(t, name, r)
		}
	}
	r := octet.New([]byte("\x80\x00" + ends))
	r.N()
	expectBad(t, "N ahead of others", r)
}

func TestInt(t *testing.T) { // P1.2
	for _, c := range []struct {
		n    uint64
		most int
		ok   bool
	}{
		{0, 0, true}, {1, 0, false}, {5, 5, true}, {5, 6, true}, {5, 4, false},
		{0, -1, false}, {5, -1, false}, {0, math.MinInt, false}, {math.MaxUint64, -1, false},
		{math.MaxInt64, math.MaxInt, true}, {math.MaxInt64, math.MaxInt - 1, false},
		{1 << 63, math.MaxInt, false}, {math.MaxUint64, math.MaxInt, false}, {1 << 32, 0, false},
	} {
		r := octet.New(append(octet.Put(nil, c.n), ends...))
		got := r.Int(c.most)
		if !c.ok {
			if got != 0 {
				t.Errorf("Int(%d) of %d = %d", c.most, c.n, got)
			}
			expectBad(t, "Int", r)
		} else if got != int(c.n) || r.Bad() || r.Left() != len(ends) {
			t.Errorf("Int(%d) of %d = %d, Bad %v, Left %d", c.most, c.n, got, r.Bad(), r.Left())
		}
	}
}

func TestText(t *testing.T) { // P1.2, P1.3
	for _, s := range texts() {
		for _, most := range []int{len(s), len(s) + 1, math.MaxInt} {
			r := octet.New(append(octet.Text(nil, s), ends...))
			if got := r.Text(most); got != s || r.Bad() || r.Left() != len(ends) {
				t.Errorf("Text(%d) of %.10q = %.10q, Bad %v, Left %d", most, s, got, r.Bad(), r.Left())
			}
		}
		for _, most := range []int{len(s) - 1, -1, math.MinInt} {
			r := octet.New(append(octet.Text(nil, s), ends...))
			if got := r.Text(most); got != "" {
				t.Errorf("Text(%d) of %.10q = %.10q", most, s, got)
			}
			expectBad(t, "Text above what may be", r)
		}
	}
}

func TestTextMissesBytes(t *testing.T) { // P1.2
	for _, s := range []string{
		"\x01", "\x03ab", "\x80\x01" + strings.Repeat("x", 127), "\xff\xff\xff\xff\x07abc",
		"\xff\xff\xff\xff\xff\xff\xff\xff\x7fabc", "\xff\xff\xff\xff\xff\xff\xff\xff\xff\x01abc",
	} {
		r := octet.New([]byte(s))
		if got := r.Text(math.MaxInt); got != "" {
			t.Errorf("Text of %q = %q", s, got)
		}
		expectBad(t, "Text of less than there is", r)
	}
}

func TestFlag(t *testing.T) { // P1.2
	r := octet.New([]byte{1, 0, 1})
	if !r.Flag() || r.Left() != 2 || r.Flag() || r.Bad() || !r.Flag() || !r.Done() {
		t.Error("flags 1, 0, 1")
	}
	for _, s := range []string{"\x02", "\x7f", "\x80\x01", "\x81\x00", "\x81\x80\x01", "\x80", ""} {
		r := octet.New([]byte(s))
		if r.Flag() {
			t.Errorf("Flag of %q", s)
		}
		expectBad(t, "Flag", r)
	}
}

func TestMixed(t *testing.T) { // P1.2, P1.3
	b := octet.Put(nil, 1<<40)
	b = octet.Text(b, "key")
	b = octet.Put(b, 0)
	b = octet.Text(b, "")
	b = octet.Put(b, 7)
	r := octet.New(b)
	if r.N() != 1<<40 || r.Text(3) != "key" || r.Flag() || r.Text(0) != "" || r.Left() != 1 || r.Done() || r.Int(7) != 7 || !r.Done() || r.Bad() {
		t.Error("what was put is not read as it was")
	}
}

func TestNewKeepsNothing(t *testing.T) { // P1.2, rules 4 and 5
	b := octet.Text(octet.Put(nil, 300), "abc")
	was := string(b)
	r, other := octet.New(b), octet.New(b)
	if r.N() != 300 || string(b) != was {
		t.Error("reading changes what was handed in")
	}
	for i := range b {
		b[i] = 0xff
	}
	if got := r.Text(3); got != "abc" || !r.Done() {
		t.Errorf("the reader sees what was written later: %q", got)
	}
	if other.Left() != len(was) || other.N() != 300 {
		t.Error("one reader moves another one")
	}
}

func TestNothingToRead(t *testing.T) { // P1.2
	for name, r := range map[string]*octet.Reader{"nil": octet.New(nil), "empty": octet.New([]byte{}), "by hand": new(octet.Reader)} {
		if r == nil || r.Bad() || !r.Done() || r.Left() != 0 {
			t.Errorf("New of nothing (%s) is bad, or not done", name)
			continue
		}
		if r.Text(5) != "" {
			t.Errorf("Text of nothing (%s)", name)
		}
		expectBad(t, "nothing, "+name, r)
	}
}

func TestNilReader(t *testing.T) { // P1, P1.2
	var r *octet.Reader
	expectBad(t, "nil", r)
}

// readOne reads one number of b, and holds it against P1.3: what is read is that number's own bytes.
func readOne(t *testing.T, b []byte) {
	r := octet.New(b)
	n := r.N()
	want, size := binary.Uvarint(b)
	own := size > 0 && len(binary.AppendUvarint(nil, want)) == size
	if r.Bad() == own {
		t.Fatalf("N of %v: Bad %v", b, r.Bad())
	}
	if !own {
		if n != 0 || r.Left() != 0 {
			t.Fatalf("N of %v: bad, but %d, Left %d", b, n, r.Left())
		}
		return
	}
	if n != want || r.Left() != len(b)-size || !bytes.Equal(octet.Put(nil, n), b[:size]) {
		t.Fatalf("N of %v = %d, Left %d", b, n, r.Left())
	}
}

func TestOneNumberOfBytes(t *testing.T) { // P1, P1.3
	readOne(t, nil)
	for x := range 256 {
		readOne(t, []byte{byte(x)})
		for y := range 256 {
			readOne(t, []byte{byte(x), byte(y)})
			readOne(t, []byte{byte(x) | 128, byte(y) | 128, byte(x ^ y)})
			readOne(t, append(bytes.Repeat([]byte{byte(x) | 128}, 8), byte(x)|128, byte(y), byte(x)))
		}
	}
}

func TestAnyBytes(t *testing.T) { // P1: no bytes make a call panic
	rnd := rand.New(rand.NewSource(1))
	for range 20000 {
		b := make([]byte, rnd.Intn(24))
		for i := range b {
			b[i] = byte(rnd.Intn(256)) >> rnd.Intn(8) << (rnd.Intn(2) * 7)
		}
		readOne(t, b)
		r := octet.New(b)
		for !r.Bad() {
			left := r.Left()
			readAny(r, rnd)
			if r.Left() >= left && !r.Bad() {
				t.Fatalf("%v: nothing was read at %d", b, left)
			}
		}
		expectBad(t, "any bytes", r)
	}
}

func readAny(r *octet.Reader, rnd *rand.Rand) {
	bounds := []int{math.MinInt, -1, 0, 1, 127, 128, math.MaxInt}
	most := bounds[rnd.Intn(len(bounds))]
	switch rnd.Intn(4) {
	case 0:
		r.N()
	case 1:
		r.Int(most)
	case 2:
		r.Text(most)
	case 3:
		r.Flag()
	}
}
