package links_test

import (
	"math"
	"math/rand"
	"slices"
	"testing"

	"sautoir/api"
	"sautoir/entry"
	"sautoir/links"
)

func id(client int, seq uint64) api.ID { return api.ID{Client: client, Seq: seq} }

// one is an entry that is told from others of its epoch by seq.
func one(epoch, seq uint64) entry.Entry {
	return entry.Entry{Epoch: epoch, Kind: entry.Finish, ID: id(0, seq)}
}

// part is an entry that has lists.
func part(epoch, seq uint64) entry.Entry {
	x := entry.Txn{ID: id(1, seq), Reads: []entry.Read{{Key: "a", Num: 7}}, Writes: []entry.Write{{Key: "b", Val: "v"}}}
	return entry.Entry{Epoch: epoch, Kind: entry.Part, Txn: x}
}

// wrongEntries are not right, though their epochs are as late as can be.
func wrongEntries() []entry.Entry {
	late := uint64(math.MaxUint64)
	return []entry.Entry{
		{},
		{Epoch: 0, Kind: entry.Finish, ID: id(0, 1)},
		{Epoch: late, Kind: 3, ID: id(0, 1)},
		{Epoch: late, Kind: math.MinInt},
		{Epoch: late, Kind: entry.Finish, ID: id(0, 0)},
		{Epoch: late, Kind: entry.Finish, ID: id(api.MaxClients, 1)},
		{Epoch: late, Kind: entry.Finish, ID: id(0, 1), Code: api.ErrOld},
		{Epoch: late, Kind: entry.Finish, ID: id(0, 1), Txn: part(1, 1).Txn},
		{Epoch: late, Kind: entry.Part},
		{Epoch: late, Kind: entry.Part, Txn: part(1, 1).Txn, ID: id(0, 1)},
		{Epoch: late, Kind: entry.Part, Txn: entry.Txn{ID: id(0, 1), Writes: []entry.Write{{Key: "A"}}}},
	}
}

// made answers a log of entries of those epochs; the entry of number i has Seq i.
func made(t *testing.T, epochs ...uint64) *links.Log {
	t.Helper()
	l := links.New()
	for i, epoch := range epochs {
		if e := l.Add(one(epoch, uint64(i+1))); e != api.OK {
			t.Fatalf("entry %d of epoch %d is refused: %d", i+1, epoch, e)
		}
	}
	return l
}

// full answers a log that has no room.
func full(t *testing.T) *links.Log {
	t.Helper()
	l := links.New()
	for i := range api.MaxLog {
		if l.Add(one(2, uint64(i+1))) != api.OK {
			t.Fatalf("no room for entry %d", i+1)
		}
	}
	return l
}

// pieceOf answers entries of those epochs, which no log that was made has.
func pieceOf(epochs ...uint64) []entry.Entry {
	var l []entry.Entry
	for _, epoch := range epochs {
		l = append(l, part(epoch, 99))
	}
	return l
}

// expect holds all that is told of how l stands against want.
func expect(t *testing.T, name string, l *links.Log, want []entry.Entry) {
	t.Helper()
	if l.Len() != len(want) || !slices.EqualFunc(l.All(), want, entry.Same) {
		t.Fatalf("%s: %d entries, %v, not %v", name, l.Len(), l.All(), want)
	}
	for i, e := range want {
		if got, ok := l.At(i + 1); !ok || !entry.Same(got, e) {
			t.Errorf("%s: At(%d) = %v, %v", name, i+1, got, ok)
		}
		if l.Epoch(i+1) != e.Epoch {
			t.Errorf("%s: Epoch(%d) = %d", name, i+1, l.Epoch(i+1))
		}
	}
	for _, i := range []int{0, -1, len(want) + 1, math.MinInt, math.MaxInt} {
		if got, ok := l.At(i); ok || !entry.Same(got, entry.Entry{}) {
			t.Errorf("%s: At(%d) = %v, %v", name, i, got, ok)
		}
		if l.Epoch(i) != 0 {
			t.Errorf("%s: Epoch(%d) = %d", name, i, l.Epoch(i))
		}
	}
}

func TestNew(t *testing.T) { // P15.1
	l := links.New()
	if l == nil {
		t.Fatal("no log")
	}
	expect(t, "a new log", l, nil)
	if !l.Fits(0, 0) || l.Same(0, pieceOf(1)) != 0 || len(l.From(0, 9)) != 0 || l.Cut(0) != api.OK {
		t.Error("pieces of a new log")
	}
}

func TestExample(t *testing.T) { // P15.2
	l := made(t, 1, 1, 2)
	if !l.Fits(2, 1) || l.Same(1, pieceOf(1, 3)) != 1 {
		t.Error("the chapter's example")
	}
}

func TestAdd(t *testing.T) { // P15.1
	l := links.New()
	var want []entry.Entry
	for _, e := range []entry.Entry{one(2, 1), part(2, 5), one(2, 1), part(7, 1), one(math.MaxUint64, 9), part(math.MaxUint64, 9)} {
		if got := l.Add(e); got != api.OK {
			t.Fatalf("Add(%v) = %d", e, got)
		}
		want = append(want, e)
		expect(t, "behind an Add", l, want)
	}
}

func TestAddRefused(t *testing.T) { // P15.1, P1
	l := made(t, 2, 5)
	want := l.All()
	for _, e := range append(wrongEntries(), one(1, 1), one(4, 3), part(4, 3)) {
		if got := l.Add(e); got != api.ErrArg {
			t.Errorf("Add(%v) = %d", e, got)
		}
	}
	expect(t, "behind refused ones", l, want)
	for _, e := range wrongEntries() {
		if got := links.New().Add(e); got != api.ErrArg {
			t.Errorf("Add(%v) to a new log = %d", e, got)
		}
	}
}

func TestAddFull(t *testing.T) { // P15.1, P1
	l := full(t)
	want := l.All()
	for _, e := range []entry.Entry{one(2, 1), part(3, 1), one(math.MaxUint64, 1)} {
		if got := l.Add(e); got != api.ErrFull {
			t.Errorf("Add(%v) = %d", e, got)
		}
	}
	// What may not be is told ahead of what has no room.
	for _, e := range append(wrongEntries(), one(1, 1)) {
		if got := l.Add(e); got != api.ErrArg {
			t.Errorf("Add(%v) = %d", e, got)
		}
	}
	expect(t, "a full log", l, want)
	if l.Cut(api.MaxLog-1) != api.OK || l.Add(one(2, 1)) != api.OK || l.Add(one(2, 1)) != api.ErrFull {
		t.Error("room for one")
	}
}

func TestCut(t *testing.T) { // P15.1
	for n := range 5 {
		l := made(t, 1, 1, 2, 4)
		want := l.All()[:n]
		if e := l.Cut(n); e != api.OK {
			t.Fatalf("Cut(%d) = %d", n, e)
		}
		expect(t, "what is left", l, want)
		if len(l.From(0, 9)) != n || l.Fits(n+1, 0) || l.Same(n, pieceOf(1, 2, 4)) != 0 {
			t.Errorf("behind Cut(%d) there is more", n)
		}
		// The epoch that must not fall is that of the last one left.
		if n == 2 && l.Add(one(1, 8)) != api.OK {
			t.Error("an epoch that was cut still counts")
		}
	}
}

func TestCutRefused(t *testing.T) { // P15.1, P1
	l := made(t, 1, 1, 2)
	want := l.All()
	for _, n := range []int{4, -1, api.MaxLog, math.MinInt, math.MaxInt} {
		if e := l.Cut(n); e != api.ErrArg {
			t.Errorf("Cut(%d) = %d", n, e)
		}
	}
	expect(t, "behind refused cuts", l, want)
}

func TestFrom(t *testing.T) { // P15.2
	l := made(t, 1, 1, 2, 4)
	all := l.All()
	for _, c := range []struct{ prev, most, from, to int }{
		{0, 4, 0, 4}, {0, 5, 0, 4}, {0, math.MaxInt, 0, 4}, {0, 1, 0, 1},
		{1, 2, 1, 3}, {2, math.MaxInt, 2, 4}, {3, 1, 3, 4}, {3, 8, 3, 4},
		{4, 1, 0, 0}, {4, math.MaxInt, 0, 0}, {5, 1, 0, 0}, {math.MaxInt, math.MaxInt, 0, 0}, {math.MaxInt, 1, 0, 0},
		{-1, 2, 0, 0}, {-1, math.MaxInt, 0, 0}, {math.MinInt, 9, 0, 0},
		{0, 0, 0, 0}, {1, -1, 0, 0}, {2, math.MinInt, 0, 0}, {-1, -1, 0, 0},
	} {
		if got := l.From(c.prev, c.most); !slices.EqualFunc(got, all[c.from:c.to], entry.Same) {
			t.Errorf("From(%d, %d) = %v", c.prev, c.most, got)
		}
	}
	expect(t, "behind From", l, all)
}

func TestFits(t *testing.T) { // P15.2
	l := made(t, 1, 1, 2, math.MaxUint64)
	for prev, epoch := range []uint64{0, 1, 1, 2, math.MaxUint64} {
		for _, other := range []uint64{0, 1, 2, 3, math.MaxUint64} {
			if l.Fits(prev, other) != (other == epoch) {
				t.Errorf("Fits(%d, %d)", prev, other)
			}
		}
	}
	for _, prev := range []int{-1, 5, math.MinInt, math.MaxInt} {
		for _, epoch := range []uint64{0, 1, 2, math.MaxUint64} {
			if l.Fits(prev, epoch) {
				t.Errorf("Fits(%d, %d)", prev, epoch)
			}
		}
	}
}

func TestSame(t *testing.T) { // P15.2
	l := made(t, 1, 1, 2, 4)
	for _, c := range []struct {
		prev   int
		epochs []uint64
		want   int
	}{
		{0, []uint64{1, 1, 2, 4}, 4}, {0, []uint64{1, 1, 2, 4, 4}, 4}, {0, []uint64{1, 1}, 2}, {0, nil, 0},
		{0, []uint64{1, 2, 2, 4}, 1}, {0, []uint64{2, 1, 2, 4}, 0}, {0, []uint64{1, 1, 3, 4}, 2},
		{1, []uint64{1, 2, 4}, 3}, {1, []uint64{1, 3}, 1}, {2, []uint64{2, 4, 0, 0}, 2}, {3, []uint64{4}, 1}, {3, []uint64{5}, 0},
		// Behind the last one there is no entry, not one of epoch 0.
		{4, []uint64{4}, 0}, {4, []uint64{0}, 0}, {4, nil, 0},
		{5, []uint64{0}, 0}, {-1, []uint64{0, 1}, 0}, {-1, []uint64{1}, 0}, {math.MinInt, []uint64{1}, 0}, {math.MaxInt, []uint64{0, 0}, 0},
	} {
		if got := l.Same(c.prev, pieceOf(c.epochs...)); got != c.want {
			t.Errorf("Same(%d, %v) = %d, not %d", c.prev, c.epochs, got, c.want)
		}
	}
	if l.Same(0, make([]entry.Entry, 100000)) != 0 || full(t).Same(1, pieceOf(make([]uint64, 1000)...)) != 0 {
		t.Error("long pieces of nothing")
	}
	if got := full(t).Same(1, pieceOf(slices.Repeat([]uint64{2}, 1000)...)); got != api.MaxLog-1 {
		t.Errorf("a long piece: %d", got)
	}
}

// spoil writes into all lists of l, and behind it.
func spoil(l []entry.Entry) {
	for i := range l {
		for j := range l[i].Txn.Reads {
			l[i].Txn.Reads[j] = entry.Read{Key: "x", Num: 1000}
		}
		for j := range l[i].Txn.Writes {
			l[i].Txn.Writes[j] = entry.Write{Key: "y", Gone: true}
		}
		_ = append(l[i].Txn.Reads, entry.Read{Key: "z"})
		_ = append(l[i].Txn.Writes, entry.Write{Key: "z"})
		l[i] = entry.Entry{}
	}
	_ = append(l, one(1000, 1000))
}

func TestMemory(t *testing.T) { // P15.1, P15.2 (rules 4 and 5)
	want := []entry.Entry{part(1, 1), part(2, 2), part(3, 3)}
	l := links.New()
	for i, e := range []entry.Entry{part(1, 1), part(2, 2), part(3, 3)} {
		if l.Add(e) != api.OK {
			t.Fatalf("entry %d is refused", i+1)
		}
		spoil([]entry.Entry{e})
	}
	expect(t, "behind what was handed in", l, want)
	for name, told := range map[string]func() []entry.Entry{
		"All":  l.All,
		"From": func() []entry.Entry { return l.From(0, 2) },
		"At": func() []entry.Entry {
			e, _ := l.At(2)
			return []entry.Entry{e}
		},
	} {
		one, two := told(), told()
		before := slices.Clone(two)
		spoil(one)
		if !slices.EqualFunc(two, before, entry.Same) || entry.Same(two[0], entry.Entry{}) {
			t.Errorf("%s: two answers share memory", name)
		}
		expect(t, name, l, want)
	}
}

// A piece that is handed in is neither changed nor kept, and what is told does not change as the log does.
func TestMemoryOfPieces(t *testing.T) { // P15.1, P15.2 (rules 4 and 5)
	l := made(t, 1, 1, 2)
	piece := pieceOf(1, 2)
	l.Same(1, piece)
	if !slices.EqualFunc(piece, pieceOf(1, 2), entry.Same) {
		t.Error("Same changes the piece")
	}
	all, some := l.All(), l.From(0, 3)
	l.Cut(1)
	l.Add(part(9, 9))
	for _, told := range [][]entry.Entry{all, some} {
		if !slices.EqualFunc(told, []entry.Entry{one(1, 1), one(1, 2), one(2, 3)}, entry.Same) {
			t.Errorf("what was told is %v now", told)
		}
	}
}

func TestNil(t *testing.T) { // P15.1, P15.2, P1
	var l *links.Log
	expect(t, "a nil log", l, nil)
	for _, n := range []int{0, 1, -1, math.MinInt, math.MaxInt} {
		if l.Cut(n) != api.ErrNil || len(l.From(n, 9)) != 0 || len(l.From(0, n)) != 0 || l.Fits(n, 0) || l.Same(n, pieceOf(1)) != 0 || l.Same(n, pieceOf(0)) != 0 {
			t.Errorf("of a nil log, with %d", n)
		}
	}
	for _, e := range append(wrongEntries(), one(1, 1)) {
		if l.Add(e) != api.ErrNil {
			t.Errorf("a nil log takes %v", e)
		}
	}
}

func TestMadeByHand(t *testing.T) { // P1
	l := new(links.Log)
	expect(t, "a log made by hand", l, nil)
	if !l.Fits(0, 0) || l.Cut(0) != api.OK || l.Add(one(1, 1)) != api.OK {
		t.Error("a log made by hand")
	}
	expect(t, "a log made by hand", l, []entry.Entry{one(1, 1)})
}

// TestManySteps holds a log against a list, step by step.
func TestManySteps(t *testing.T) { // P15.1, P15.2
	r := rand.New(rand.NewSource(15))
	for range 100 {
		l := links.New()
		var want []entry.Entry
		for step := range 60 {
			if n := r.Intn(len(want)+3) - 1; r.Intn(4) == 0 {
				e := l.Cut(n)
				if (e == api.OK) != (n >= 0 && n <= len(want)) {
					t.Fatalf("Cut(%d) of %d = %d", n, len(want), e)
				}
				if e == api.OK {
					want = want[:n:n]
				}
			}
			next := one(uint64(r.Intn(6)), uint64(step+1))
			last := entry.Entry{}
			if len(want) > 0 {
				last = want[len(want)-1]
			}
			e := l.Add(next)
			if (e == api.OK) != (next.Epoch > 0 && next.Epoch >= last.Epoch) {
				t.Fatalf("Add of epoch %d behind %d = %d", next.Epoch, last.Epoch, e)
			}
			if e == api.OK {
				want = append(want, next)
			}
			expect(t, "step by step", l, want)
			prev, most := r.Intn(len(want)+1), 1+r.Intn(5)
			if !slices.EqualFunc(l.From(prev, most), want[prev:min(prev+most, len(want))], entry.Same) {
				t.Fatalf("From(%d, %d) = %v", prev, most, l.From(prev, most))
			}
		}
	}
}
