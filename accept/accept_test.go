package accept_test

import (
	"math"
	"math/rand"
	"slices"
	"strings"
	"testing"

	"sautoir/accept"
	"sautoir/api"
	"sautoir/ballot"
	"sautoir/letter"
)

func of(round uint64, node int) ballot.Ballot { return ballot.Ballot{Round: round, Node: node} }

func vote(slot int, b ballot.Ballot, val string) letter.Vote {
	return letter.Vote{Slot: slot, Ballot: b, Val: val}
}

// notAsked are ballots that may not be asked, though all but the first ones are as late as can be.
func notAsked() []ballot.Ballot {
	late := uint64(math.MaxUint64)
	return []ballot.Ballot{{}, of(0, 1), of(0, 4), of(0, -1), of(late, -1), of(late, 5), of(late, math.MinInt), of(late, math.MaxInt)}
}

// noVotes are no votes, of a ballot that may be asked.
func noVotes(b ballot.Ballot) []letter.Vote {
	return []letter.Vote{
		vote(-1, b, "v"), vote(1<<20+1, b, "v"), vote(math.MinInt, b, "v"), vote(math.MaxInt, b, "v"),
		vote(1, b, strings.Repeat("v", api.MaxVal+1)), vote(1, b, strings.Repeat("v", 1<<20)),
	}
}

// made answers an acceptor that took those votes, in that order.
func made(t *testing.T, l ...letter.Vote) *accept.Acceptor {
	t.Helper()
	a := accept.New()
	for _, v := range l {
		if e := a.Accept(v); e != api.OK {
			t.Fatalf("Accept(%v) = %d", v, e)
		}
	}
	return a
}

// full answers an acceptor that has votes of all slots from 0 on that have room.
func full(t *testing.T, b ballot.Ballot) *accept.Acceptor {
	t.Helper()
	var l []letter.Vote
	for slot := range api.MaxLog {
		l = append(l, vote(slot, b, "v"))
	}
	return made(t, l...)
}

// expect holds all that is told of how a stands; want rises.
func expect(t *testing.T, name string, a *accept.Acceptor, promised ballot.Ballot, want ...letter.Vote) {
	t.Helper()
	if a.Promised() != promised {
		t.Errorf("%s: promised is %v, not %v", name, a.Promised(), promised)
	}
	for _, from := range []int{math.MinInt, -1, 0, 1, 2, 3, 7, 8, api.MaxLog, 1 << 20, 1<<20 + 1, math.MaxInt} {
		behind := slices.DeleteFunc(slices.Clone(want), func(v letter.Vote) bool { return v.Slot < from })
		if got := a.Votes(from); !slices.Equal(got, behind) {
			t.Errorf("%s: Votes(%d) = %v, not %v", name, from, got, behind)
		}
	}
}

func TestNil(t *testing.T) { // P1
	var a *accept.Acceptor
	expect(t, "none", a, ballot.Ballot{})
	for _, b := range append(notAsked(), of(1, 0)) {
		for _, from := range []int{-1, 0, math.MaxInt} {
			if l, e := a.Prepare(b, from); e != api.ErrNil || len(l) != 0 {
				t.Errorf("Prepare(%v, %d) = %v, %d", b, from, l, e)
			}
		}
		if e := a.Accept(vote(1, b, "v")); e != api.ErrNil {
			t.Errorf("Accept of %v = %d", b, e)
		}
	}
}

func TestNew(t *testing.T) { // P18.1
	if accept.New() == nil {
		t.Fatal("no acceptor")
	}
	expect(t, "a new one", accept.New(), ballot.Ballot{})
	if l, e := accept.New().Prepare(of(1, 0), 0); e != api.OK || len(l) != 0 {
		t.Error("the least ballot", l, e)
	}
}

func TestByHand(t *testing.T) { // P1
	a := &accept.Acceptor{}
	expect(t, "made by hand", a, ballot.Ballot{})
	if l, e := a.Prepare(of(1, 1), 0); e != api.OK || len(l) != 0 {
		t.Error("Prepare", l, e)
	}
	if e := a.Accept(vote(3, of(1, 1), "v")); e != api.OK {
		t.Error("Accept", e)
	}
	expect(t, "made by hand", a, of(1, 1), vote(3, of(1, 1), "v"))
}

func TestExample(t *testing.T) { // P18.1
	a := accept.New()
	a.Prepare(of(2, 0), 0)
	if e := a.Accept(vote(0, of(1, 4), "v")); e != api.ErrOld {
		t.Error("the chapter's example", e)
	}
	expect(t, "the chapter's example", a, of(2, 0))
}

func TestPrepare(t *testing.T) { // P18.1
	all := []letter.Vote{vote(0, of(1, 0), "a"), vote(2, of(1, 1), ""), vote(7, of(1, 2), "c")}
	for _, from := range []int{0, 1, 2, 3, 7, 8, math.MaxInt} {
		for _, b := range []ballot.Ballot{of(1, 2), of(1, 3), of(2, 0), of(math.MaxUint64, 4)} {
			a := made(t, all...)
			want := a.Votes(from)
			l, e := a.Prepare(b, from)
			if e != api.OK || !slices.Equal(l, want) {
				t.Errorf("Prepare(%v, %d) = %v, %d; want %v", b, from, l, e, want)
			}
			expect(t, "behind Prepare", a, b, all...)
		}
	}
}

func TestPrepareRefused(t *testing.T) { // P18.1, P1
	a := made(t, vote(1, of(3, 2), "v"))
	for _, b := range notAsked() {
		for _, from := range []int{-1, 0, 1} {
			if l, e := a.Prepare(b, from); e != api.ErrArg || len(l) != 0 {
				t.Errorf("Prepare(%v, %d) = %v, %d", b, from, l, e)
			}
		}
	}
	for _, b := range []ballot.Ballot{of(1, 0), of(2, 4), of(3, 0), of(3, 1)} {
		if l, e := a.Prepare(b, 0); e != api.ErrOld || len(l) != 0 {
			t.Errorf("Prepare(%v) = %v, %d", b, l, e)
		}
		// What may not be is told ahead of what is past.
		if l, e := a.Prepare(b, -1); e != api.ErrArg || len(l) != 0 {
			t.Errorf("Prepare(%v, -1) = %v, %d", b, l, e)
		}
	}
	for _, from := range []int{-1, math.MinInt} {
		if l, e := a.Prepare(of(9, 0), from); e != api.ErrArg || len(l) != 0 {
			t.Errorf("Prepare from %d = %v, %d", from, l, e)
		}
	}
	expect(t, "behind refused ones", a, of(3, 2), vote(1, of(3, 2), "v"))
}

func TestAccept(t *testing.T) { // P18.1, P18.2
	long := strings.Repeat("\xff", api.MaxVal)
	a := accept.New()
	a.Prepare(of(1, 1), 0)
	for _, x := range []struct {
		v    letter.Vote
		want []letter.Vote
	}{
		{vote(8, of(1, 1), "v"), []letter.Vote{vote(8, of(1, 1), "v")}},
		{vote(0, of(1, 1), ""), []letter.Vote{vote(0, of(1, 1), ""), vote(8, of(1, 1), "v")}},
		{vote(8, of(1, 1), "w"), []letter.Vote{vote(0, of(1, 1), ""), vote(8, of(1, 1), "w")}},
		{vote(0, of(1, 4), long), []letter.Vote{vote(0, of(1, 4), long), vote(8, of(1, 1), "w")}},
		{vote(8, of(5, 0), ""), []letter.Vote{vote(0, of(1, 4), long), vote(8, of(5, 0), "")}},
		{vote(1<<20, of(math.MaxUint64, 4), "x"), []letter.Vote{vote(0, of(1, 4), long), vote(8, of(5, 0), ""), vote(1<<20, of(math.MaxUint64, 4), "x")}},
	} {
		if e := a.Accept(x.v); e != api.OK {
			t.Fatalf("Accept(%v) = %d", x.v, e)
		}
		expect(t, "behind Accept", a, x.v.Ballot, x.want...)
	}
}

func TestAcceptRefused(t *testing.T) { // P18.1, P1
	a := made(t, vote(1, of(3, 2), "v"))
	for _, b := range notAsked() {
		if e := a.Accept(vote(1, b, "w")); e != api.ErrArg {
			t.Errorf("Accept of %v = %d", b, e)
		}
	}
	for _, b := range []ballot.Ballot{of(1, 0), of(2, 4), of(3, 1)} {
		for _, slot := range []int{0, 1, 2} {
			if e := a.Accept(vote(slot, b, "w")); e != api.ErrOld {
				t.Errorf("Accept of %v = %d", b, e)
			}
		}
	}
	// What may not be is told ahead of what is past.
	for _, b := range []ballot.Ballot{of(1, 0), of(3, 2), of(9, 0)} {
		for i, v := range noVotes(b) {
			if e := a.Accept(v); e != api.ErrArg {
				t.Errorf("%d, which is no vote, of %v: %d", i, b, e)
			}
		}
	}
	expect(t, "behind refused ones", a, of(3, 2), vote(1, of(3, 2), "v"))
}

func TestAcceptFull(t *testing.T) { // P18.1
	a := full(t, of(2, 2))
	want := a.Votes(0)
	if len(want) != api.MaxLog {
		t.Fatal("there are", len(want))
	}
	for _, x := range []struct {
		v letter.Vote
		e api.Errno
	}{
		{vote(api.MaxLog, of(2, 2), "w"), api.ErrFull},
		{vote(1<<20, of(9, 0), "w"), api.ErrFull},
		{vote(api.MaxLog, of(2, 1), "w"), api.ErrOld},
		{vote(0, of(2, 1), "w"), api.ErrOld},
		{vote(api.MaxLog, of(0, 1), "w"), api.ErrArg},
		{vote(1<<20+1, of(9, 0), "w"), api.ErrArg},
	} {
		if e := a.Accept(x.v); e != x.e {
			t.Errorf("Accept(%v) = %d, not %d", x.v, e, x.e)
		}
	}
	// A vote that has no room promises nothing either.
	expect(t, "full", a, of(2, 2), want...)
	for _, slot := range []int{0, 7, api.MaxLog - 1} {
		want[slot] = vote(slot, of(3, 0), "w")
		if e := a.Accept(want[slot]); e != api.OK {
			t.Errorf("in place of slot %d: %d", slot, e)
		}
	}
	expect(t, "behind changes", a, of(3, 0), want...)
}

func TestMemory(t *testing.T) { // P18.1, P18.2 (rule 4)
	a := made(t, vote(1, of(1, 1), "a"), vote(2, of(1, 1), "b"))
	want := a.Votes(0)
	l, _ := a.Prepare(of(1, 1), 0)
	m := a.Votes(0)
	clear(l)
	_ = append(l[:1], vote(5, of(1, 1), "x"))
	if !slices.Equal(m, want) {
		t.Error("two answers share memory")
	}
	clear(m)
	expect(t, "behind changed answers", a, of(1, 1), want...)
}

// TestAlways asks one acceptor again and again, and holds it against a list of what it took.
func TestAlways(t *testing.T) { // P18.3, P18.1, P18.2
	r := rand.New(rand.NewSource(18))
	for range 60 {
		a := accept.New()
		var promised ballot.Ballot
		votes := map[int]letter.Vote{}
		for range 400 {
			b := of(promised.Round+uint64(r.Intn(4)), r.Intn(api.MaxMasters))
			if b.Round > 0 && r.Intn(2) == 0 {
				b.Round--
			}
			v := vote(r.Intn(12), b, string(rune('a'+r.Intn(26))))
			want := api.OK
			switch {
			case b.Round == 0:
				want = api.ErrArg
			case ballot.Less(b, promised):
				want = api.ErrOld
			}
			before := a.Votes(0)
			if r.Intn(4) == 0 {
				l, e := a.Prepare(b, v.Slot)
				if e != want || e == api.OK && !slices.Equal(l, a.Votes(v.Slot)) {
					t.Fatalf("Prepare(%v, %d) = %v, %d; want %d", b, v.Slot, l, e, want)
				}
				if !slices.Equal(a.Votes(0), before) {
					t.Fatal("Prepare changes votes")
				}
			} else {
				if e := a.Accept(v); e != want {
					t.Fatalf("Accept(%v) = %d; want %d", v, e, want)
				}
				if want == api.OK {
					votes[v.Slot] = v
				}
			}
			expectFollows(t, promised, before, a)
			if want == api.OK {
				promised = b
			}
			expectVotes(t, a, promised, votes)
		}
	}
}

// expectFollows holds what is promised of an acceptor that had promised before, and had those votes.
func expectFollows(t *testing.T, promised ballot.Ballot, votes []letter.Vote, a *accept.Acceptor) {
	t.Helper()
	if ballot.Less(a.Promised(), promised) {
		t.Fatalf("%v was promised, now it is %v", promised, a.Promised())
	}
	for _, v := range votes {
		l := a.Votes(v.Slot)
		if len(l) == 0 || l[0].Slot != v.Slot || ballot.Less(l[0].Ballot, v.Ballot) {
			t.Fatalf("%v was there, now there is %v", v, l)
		}
		if l[0] != v && ballot.Less(l[0].Ballot, promised) {
			t.Fatalf("%v was promised, and %v came", promised, l[0])
		}
	}
}

// expectVotes holds all that a tells against what it took.
func expectVotes(t *testing.T, a *accept.Acceptor, promised ballot.Ballot, votes map[int]letter.Vote) {
	t.Helper()
	l := a.Votes(0)
	if a.Promised() != promised || len(l) != len(votes) {
		t.Fatalf("%v, %v; want %v, %v", a.Promised(), l, promised, votes)
	}
	for i, v := range l {
		if v != votes[v.Slot] || i > 0 && l[i-1].Slot >= v.Slot {
			t.Fatalf("%v; want %v", l, votes)
		}
	}
}
