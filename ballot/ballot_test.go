package ballot_test

import (
	"bytes"
	"encoding/binary"
	"math"
	"math/rand"
	"testing"

	"sautoir/api"
	"sautoir/ballot"
	"sautoir/octet"
)

// noMasters are numbers of which there is no master, those among them that are one when they are cut to few bits.
func noMasters() []int {
	return []int{-1, -2, -5, 5, 6, 7, 8, 9, 63, 64, 66, 256, 258, 1 << 32, 1<<32 + 1, math.MaxInt, math.MinInt, math.MinInt + 2}
}

func rounds() []uint64 {
	return []uint64{0, 1, 2, 127, 128, 300, math.MaxUint32, 1 << 32, math.MaxInt64, 1 << 63, math.MaxUint64 - 1, math.MaxUint64}
}

// ballots are ballots of all the rounds, of masters and of others.
func ballots() []ballot.Ballot {
	var out []ballot.Ballot
	for _, round := range rounds() {
		for _, node := range append(noMasters(), 0, 1, 2, 3, 4) {
			out = append(out, ballot.Ballot{Round: round, Node: node})
		}
	}
	return out
}

// all is each set of masters, with bits of no master, too.
func all() []ballot.Votes {
	var out []ballot.Votes
	for v := range 256 {
		out = append(out, ballot.Votes(v))
	}
	return out
}

// taken is how many masters a number asks for.
func taken(n int) int {
	if n < 1 {
		return 1
	}
	if n > 5 {
		return 5
	}
	return n
}

func TestLess(t *testing.T) { // P7.1
	for _, c := range []struct {
		a, b ballot.Ballot
		want bool
	}{
		{ballot.Ballot{1, 0}, ballot.Ballot{2, 0}, true},
		{ballot.Ballot{2, 0}, ballot.Ballot{1, 0}, false},
		{ballot.Ballot{1, 4}, ballot.Ballot{2, 0}, true},
		{ballot.Ballot{2, 0}, ballot.Ballot{1, 4}, false},
		{ballot.Ballot{3, 1}, ballot.Ballot{3, 2}, true},
		{ballot.Ballot{3, 2}, ballot.Ballot{3, 1}, false},
		{ballot.Ballot{3, 2}, ballot.Ballot{3, 2}, false},
		{ballot.Ballot{}, ballot.Ballot{}, false},
		{ballot.Ballot{0, -1}, ballot.Ballot{}, true},
		{ballot.Ballot{}, ballot.Ballot{0, -1}, false},
		{ballot.Ballot{5, math.MinInt}, ballot.Ballot{5, math.MaxInt}, true},
		{ballot.Ballot{5, math.MaxInt}, ballot.Ballot{5, math.MinInt}, false},
		{ballot.Ballot{math.MaxInt64, 0}, ballot.Ballot{1 << 63, 0}, true},
		{ballot.Ballot{0, 4}, ballot.Ballot{math.MaxUint64, 0}, true},
		{ballot.Ballot{math.MaxUint64, 0}, ballot.Ballot{0, 4}, false},
	} {
		if got := ballot.Less(c.a, c.b); got != c.want {
			t.Errorf("Less(%v, %v) = %v", c.a, c.b, got)
		}
	}
}

func TestMax(t *testing.T) { // P7.1
	for _, c := range []struct{ less, more ballot.Ballot }{
		{ballot.Ballot{1, 4}, ballot.Ballot{2, 0}},
		{ballot.Ballot{3, 1}, ballot.Ballot{3, 2}},
		{ballot.Ballot{0, -1}, ballot.Ballot{}},
		{ballot.Ballot{1 << 62, 4}, ballot.Ballot{math.MaxUint64, -1}},
		{ballot.Ballot{5, math.MinInt}, ballot.Ballot{5, math.MaxInt}},
	} {
		if a, b := ballot.Max(c.less, c.more), ballot.Max(c.more, c.less); a != c.more || b != c.more {
			t.Errorf("Max of %v and %v: %v, and %v", c.less, c.more, a, b)
		}
		if x := ballot.Max(c.less, c.less); x != c.less {
			t.Errorf("Max of %v twice: %v", c.less, x)
		}
	}
}

func TestNext(t *testing.T) { // P7.1
	for _, seen := range ballots() {
		for node := range 5 {
			got, e := ballot.Next(seen, node)
			want, wantE := ballot.Ballot{seen.Round + 1, node}, api.OK
			if seen.Round == math.MaxUint64 {
				want, wantE = ballot.Ballot{}, api.ErrFull
			}
			if got != want || e != wantE {
				t.Errorf("Next(%v, %d) = %v, %d; want %v, %d", seen, node, got, e, want, wantE)
			}
		}
	}
}

func TestNextOfNoMaster(t *testing.T) { // P7.1, P1
	for _, seen := range ballots() {
		for _, node := range noMasters() {
			if got, e := ballot.Next(seen, node); got != (ballot.Ballot{}) || e != api.ErrArg {
				t.Errorf("Next(%v, %d) = %v, %d", seen, node, got, e)
			}
		}
	}
}

// isMaster says by the chapter's word whether a ballot's node is kept by its bytes.
func isMaster(node int) bool {
	return node == 0 || node == 1 || node == 2 || node == 3 || node == 4
}

func TestPut(t *testing.T) { // P7.2
	for _, x := range ballots() {
		want := binary.AppendUvarint([]byte("ahead"), x.Round)
		if isMaster(x.Node) {
			want = append(want, byte(x.Node))
		} else {
			want = append(want, 5)
		}
		if got := ballot.Put([]byte("ahead"), x); !bytes.Equal(got, want) {
			t.Errorf("Put(ahead, %v) = %v, want %v", x, got, want)
		}
		if got := ballot.Put(nil, x); !bytes.Equal(got, want[5:]) {
			t.Errorf("Put(nil, %v) = %v, want %v", x, got, want[5:])
		}
	}
}

func TestPutLeavesItsArgument(t *testing.T) { // P7.2, rules 4 and 5
	room := []byte("abcdefghijklmnop")
	got := ballot.Put(room[:3], ballot.Ballot{300, 2})
	if string(room) != "abcdefghijklmnop" {
		t.Errorf("Put wrote behind what it was given: %q", room)
	}
	copy(room, "????????????????")
	if string(got) != "abc\xac\x02\x02" {
		t.Errorf("the answer shares memory with its argument: %q", got)
	}
	one, other := ballot.Put(got, ballot.Ballot{7, 1}), ballot.Put(got, ballot.Ballot{8, 3})
	if string(one) != string(got)+"\x07\x01" || string(other) != string(got)+"\x08\x03" {
		t.Errorf("two answers behind the same bytes: %q, %q", one, other)
	}
}

func TestReadWhatWasPut(t *testing.T) { // P7.2
	var b []byte
	for _, x := range ballots() {
		b = ballot.Put(b, x)
	}
	r := octet.New(b)
	for _, x := range ballots() {
		if !isMaster(x.Node) {
			x.Node = -1
		}
		if got := ballot.Read(r); got != x || r.Bad() {
			t.Fatalf("Read = %v, want %v; Bad %v", got, x, r.Bad())
		}
	}
	if !r.Done() {
		t.Errorf("%d bytes are left", r.Left())
	}
	if x := ballot.Read(r); x != (ballot.Ballot{}) || !r.Bad() {
		t.Errorf("Read behind the last one: %v, Bad %v", x, r.Bad())
	}
}

func TestReadOfNone(t *testing.T) { // P7.2
	for _, s := range []string{
		"", "\x01", "\x80", "\x80\x00", "\x80\x00\x01", // no round, or no node
		"\x01\x06", "\x01\x7f", "\x01\x80", "\x01\x80\x01", "\x01\x85\x00", // no node that may be
		"\x07\xff\xff\xff\xff\xff\xff\xff\xff\xff\x01", "\x07\x80\x80\x80\x80\x80\x80\x80\x80\x80\x01",
		"\xff\xff\xff\xff\xff\xff\xff\xff\xff\x02\x01", // a round above 2^64 - 1
	} {
		r := octet.New([]byte(s))
		if x := ballot.Read(r); x != (ballot.Ballot{}) || !r.Bad() || r.Left() != 0 {
			t.Errorf("Read of %q: %v, Bad %v", s, x, r.Bad())
		}
		if x := ballot.Read(r); x != (ballot.Ballot{}) || !r.Bad() {
			t.Errorf("Read of a bad reader: %v", x)
		}
	}
}

func TestReadOfNoReader(t *testing.T) { // P7.2, P1
	if x := ballot.Read(nil); x != (ballot.Ballot{}) {
		t.Errorf("Read(nil) = %v", x)
	}
	var r octet.Reader
	if x := ballot.Read(&r); x != (ballot.Ballot{}) || !r.Bad() {
		t.Errorf("Read of a reader made by hand: %v, Bad %v", x, r.Bad())
	}
}

func TestReadOfAnyBytes(t *testing.T) { // P7.2, P1
	rnd := rand.New(rand.NewSource(7))
	for range 20000 {
		b := make([]byte, rnd.Intn(14))
		for i := range b {
			b[i] = byte(rnd.Intn(256)) >> rnd.Intn(8) << (rnd.Intn(2) * 7)
		}
		r := octet.New(b)
		x := ballot.Read(r)
		if r.Bad() {
			if x != (ballot.Ballot{}) {
				t.Fatalf("Read of %v: bad, but %v", b, x)
			}
			continue
		}
		if x.Node < -1 || x.Node > 4 || !bytes.Equal(ballot.Put(nil, x), b[:len(b)-r.Left()]) {
			t.Fatalf("Read of %v = %v, with %d left", b, x, r.Left())
		}
	}
}

// sets holds each of the votes against the set of masters that its number is.
func sets() [256]map[int]struct{} {
	var out [256]map[int]struct{}
	for v := range out {
		out[v] = map[int]struct{}{}
		for node, worth := range [5]int{1, 2, 4, 8, 16} {
			if v/worth%2 == 1 {
				out[v][node] = struct{}{}
			}
		}
	}
	return out
}

func TestHasAndLen(t *testing.T) { // P7.3
	for v, set := range sets() {
		votes := ballot.Votes(v)
		if votes.Len() != len(set) {
			t.Errorf("Len of %b: %d", v, votes.Len())
		}
		for node := range 5 {
			if _, want := set[node]; votes.Has(node) != want {
				t.Errorf("%b: Has(%d) = %v", v, node, !want)
			}
		}
		for _, node := range noMasters() {
			if votes.Has(node) {
				t.Errorf("%b has %d", v, node)
			}
		}
	}
}

func TestWith(t *testing.T) { // P7.3
	for _, v := range all() {
		for node, worth := range [5]ballot.Votes{1, 2, 4, 8, 16} {
			want := v
			if v/worth%2 == 0 {
				want = v + worth
			}
			if got := v.With(node); got != want || got.With(node) != want || !got.Has(node) {
				t.Errorf("%b with %d: %b, want %b", v, node, got, want)
			}
		}
		for _, node := range noMasters() {
			if got := v.With(node); got != v {
				t.Errorf("%b with %d: %b", v, node, got)
			}
		}
	}
}

func TestWins(t *testing.T) { // P7.3
	for v, set := range sets() {
		for _, n := range []int{1, 2, 3, 4, 5, 6, 7, 8, 9, 256, 1 << 32, math.MaxInt, 0, -1, -3, math.MinInt} {
			in := 0
			for node := range taken(n) {
				if _, ok := set[node]; ok {
					in++
				}
			}
			want := in > taken(n)-in
			if got := ballot.Votes(v).Wins(n); got != want {
				t.Errorf("%b wins of %d: %v", v, n, got)
			}
		}
	}
}

func TestWinsExample(t *testing.T) { // P7.3
	v := ballot.Votes(0).With(0).With(2)
	if !v.Wins(3) || v.Wins(4) {
		t.Errorf("votes of 0 and 2: of three %v, of four %v", v.Wins(3), v.Wins(4))
	}
	if other := ballot.Votes(0).With(3).With(4); other.Wins(3) || other.Len() != 2 {
		t.Error("votes of 3 and 4 win of three")
	}
	if three := v.With(1); !three.Wins(4) || !three.Wins(5) {
		t.Error("votes of 0, 1 and 2 don't win of four and of five")
	}
}

func TestBallotsAreInOneOrder(t *testing.T) { // P7.4
	for _, a := range ballots() {
		for _, b := range ballots() {
			less, more := ballot.Less(a, b), ballot.Less(b, a)
			if less && more || (less || more) == (a == b) {
				t.Fatalf("%v and %v: less %v, more %v", a, b, less, more)
			}
			want := a
			if less {
				want = b
			}
			if got := ballot.Max(a, b); got != want {
				t.Fatalf("Max(%v, %v) = %v", a, b, got)
			}
		}
	}
}

func TestOrderGoesOn(t *testing.T) { // P7.4
	rnd := rand.New(rand.NewSource(4))
	some := ballots()
	for range 100000 {
		a, b, c := some[rnd.Intn(len(some))], some[rnd.Intn(len(some))], some[rnd.Intn(len(some))]
		if ballot.Less(a, b) && ballot.Less(b, c) && !ballot.Less(a, c) {
			t.Fatalf("%v, %v, %v", a, b, c)
		}
	}
}

func TestNextIsGreater(t *testing.T) { // P7.4
	for _, seen := range ballots() {
		for node := range 5 {
			if x, e := ballot.Next(seen, node); e == api.OK && (!ballot.Less(seen, x) || ballot.Max(seen, x) != x) {
				t.Errorf("Next(%v, %d) = %v", seen, node, x)
			}
		}
	}
}

func TestWinnersMeet(t *testing.T) { // P7.4
	for _, n := range []int{-1, 0, 1, 2, 3, 4, 5, 6, 100} {
		won := 0
		for _, v := range all() {
			if !v.Wins(n) {
				continue
			}
			won++
			for _, w := range all() {
				if w.Wins(n) && !meet(v, w) {
					t.Fatalf("%b and %b both win of %d", v, w, n)
				}
			}
		}
		if won == 0 {
			t.Errorf("nobody wins of %d", n)
		}
	}
}

func meet(v, w ballot.Votes) bool {
	for node := range 5 {
		if v.Has(node) && w.Has(node) {
			return true
		}
	}
	return false
}
