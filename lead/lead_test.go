package lead_test

import (
	"math"
	"slices"
	"strings"
	"testing"

	"sautoir/api"
	"sautoir/ballot"
	"sautoir/lead"
	"sautoir/letter"
)

func of(round uint64, node int) ballot.Ballot { return ballot.Ballot{Round: round, Node: node} }

func vote(slot int, b ballot.Ballot, val string) letter.Vote {
	return letter.Vote{Slot: slot, Ballot: b, Val: val}
}

// asking answers a lead of master 1 of n that asks from that slot on, and its ballot.
func asking(t *testing.T, n, from int) (*lead.Lead, ballot.Ballot) {
	t.Helper()
	l := lead.New(1, n)
	return l, begun(t, l, of(4, 2), from)
}

// begun has l ask anew, and answers its ballot.
func begun(t *testing.T, l *lead.Lead, seen ballot.Ballot, from int) ballot.Ballot {
	t.Helper()
	b, e := l.Begin(seen, from)
	if e != api.OK {
		t.Fatalf("Begin(%v, %d) = %d", seen, from, e)
	}
	return b
}

// leading answers a lead of master 1 of three that leads from that slot on, with what votes left to it.
func leading(t *testing.T, from int, votes ...letter.Vote) (*lead.Lead, ballot.Ballot) {
	t.Helper()
	l, b := asking(t, 3, from)
	if l.Promise(1, b, votes) || !l.Promise(2, b, nil) {
		t.Fatal("two promises of three")
	}
	return l, b
}

// expectIdle holds all that is told of a lead that is Idle.
func expectIdle(t *testing.T, name string, l *lead.Lead) {
	t.Helper()
	expect(t, name, l, lead.Idle, ballot.Ballot{}, 0)
}

// expectAsking holds all that is told of a lead that asks.
func expectAsking(t *testing.T, name string, l *lead.Lead, b ballot.Ballot) {
	t.Helper()
	expect(t, name, l, lead.Asking, b, 0)
}

// expect holds all that is told of how l stands.
func expect(t *testing.T, name string, l *lead.Lead, state int, b ballot.Ballot, next int, open ...letter.Vote) {
	t.Helper()
	if l.State() != state || l.Ballot() != b || l.Next() != next || !slices.Equal(l.Open(), open) {
		t.Fatalf("%s: State %d, Ballot %v, Next %d, Open %v; want %d, %v, %d, %v",
			name, l.State(), l.Ballot(), l.Next(), l.Open(), state, b, next, open)
	}
}

// notHeard are ballots that are not b.
func notHeard(b ballot.Ballot) []ballot.Ballot {
	return []ballot.Ballot{
		{}, of(b.Round-1, b.Node), of(b.Round+1, b.Node), of(b.Round, b.Node-1), of(b.Round, b.Node+1),
		of(0, b.Node), of(b.Round, -1), of(math.MaxUint64, math.MaxInt), of(b.Round, b.Node+1<<32),
	}
}

// noMasters are numbers that none of n masters has.
func noMasters(n int) []int {
	return []int{-1, -2, -n, n, n + 1, 8, 63, 64, 65, 256, 1 << 32, 1<<32 + 1, math.MaxInt, math.MinInt, math.MinInt + 1}
}

func TestConstants(t *testing.T) {
	if lead.Idle != 0 || lead.Asking != 1 || lead.Leads != 2 {
		t.Error(lead.Idle, lead.Asking, lead.Leads)
	}
}

func TestNil(t *testing.T) { // P1
	var l *lead.Lead
	long := strings.Repeat("v", api.MaxVal+1)
	for _, from := range []int{-1, 0, api.MaxLog + 1} {
		for _, seen := range []ballot.Ballot{{}, of(3, 1), of(math.MaxUint64, 0)} {
			if b, e := l.Begin(seen, from); b != (ballot.Ballot{}) || e != api.ErrNil {
				t.Errorf("Begin(%v, %d) = %v, %d", seen, from, b, e)
			}
		}
	}
	if l.Promise(0, ballot.Ballot{}, []letter.Vote{vote(0, of(1, 0), "v")}) {
		t.Error("Promise")
	}
	for _, val := range []string{"", "v", long} {
		if slot, e := l.Propose(val); slot != 0 || e != api.ErrNil {
			t.Errorf("Propose(%q) = %d, %d", val, slot, e)
		}
	}
	if val, is := l.Accepted(0, ballot.Ballot{}, 0); val != "" || is {
		t.Error("Accepted", val, is)
	}
	l.Quit()
	expectIdle(t, "none", l)
}

// A lead that was made by hand is taken as one of a single master.
func TestByHand(t *testing.T) { // P1
	l := &lead.Lead{}
	expectIdle(t, "made by hand", l)
	if l.Promise(0, ballot.Ballot{}, []letter.Vote{vote(0, of(1, 0), "v")}) {
		t.Error("Promise to one that is Idle")
	}
	if _, is := l.Accepted(0, ballot.Ballot{}, 0); is {
		t.Error("Accepted by one that is Idle")
	}
	l.Quit()
	b := begun(t, l, ballot.Ballot{}, 0)
	if l.Promise(1, b, nil) || !l.Promise(0, b, []letter.Vote{vote(1, of(1, 0), "v")}) {
		t.Error("Promise")
	}
	expect(t, "made by hand", l, lead.Leads, of(1, 0), 2, vote(0, b, ""), vote(1, b, "v"))
	if val, is := l.Accepted(0, b, 1); val != "v" || !is {
		t.Error("Accepted", val, is)
	}
}

func TestExample(t *testing.T) { // P20.2, P20.3
	l := lead.New(0, 3)
	b := begun(t, l, ballot.Ballot{}, 0)
	if l.Promise(0, b, nil) || !l.Promise(1, b, nil) || l.State() != lead.Leads {
		t.Error("two promises of three")
	}
	slot, e := l.Propose("v")
	if slot != 0 || e != api.OK {
		t.Error("Propose", slot, e)
	}
	if _, is := l.Accepted(0, b, slot); is {
		t.Error("one that accepted")
	}
	if val, is := l.Accepted(1, b, slot); val != "v" || !is {
		t.Error("two that accepted", val, is)
	}
}

func TestNew(t *testing.T) { // P20.1
	for _, c := range []struct{ me, taken int }{
		{0, 0}, {1, 1}, {4, 4}, {5, 4}, {6, 4}, {256, 4}, {1 << 32, 4}, {math.MaxInt, 4}, {-1, 0}, {-3, 0}, {math.MinInt, 0},
	} {
		l := lead.New(c.me, 3)
		expectIdle(t, "a new one", l)
		if b, e := l.Begin(of(6, 0), 0); b != of(7, c.taken) || e != api.OK {
			t.Errorf("master %d begins with %v, %d", c.me, b, e)
		}
	}
}

// howMany answers how many promises it takes to lead; it holds that nothing is heard of masters that there can't be.
func howMany(t *testing.T, n int) int {
	t.Helper()
	l := lead.New(0, n)
	b := begun(t, l, ballot.Ballot{}, 0)
	count := 1
	for ; count <= api.MaxMasters && !l.Promise(count-1, b, nil); count++ {
		if l.Promise(api.MaxMasters, b, []letter.Vote{vote(0, of(1, 0), "v")}) {
			t.Fatalf("of %d: a promise of master %d", n, api.MaxMasters)
		}
	}
	expect(t, "all promised", l, lead.Leads, b, 0)
	return count
}

func TestHowManyMasters(t *testing.T) { // P20.1, P20.2
	for _, c := range []struct{ n, want int }{
		{1, 1}, {2, 2}, {3, 2}, {4, 3}, {5, 3},
		{0, 1}, {-1, 1}, {math.MinInt, 1}, {6, 3}, {7, 3}, {256, 3}, {1 << 32, 3}, {math.MaxInt, 3},
	} {
		if got := howMany(t, c.n); got != c.want {
			t.Errorf("of %d masters it takes %d", c.n, got)
		}
	}
}

func TestBegin(t *testing.T) { // P20.1
	for _, from := range []int{0, 1, 7, api.MaxLog - 1, api.MaxLog} {
		for _, seen := range []ballot.Ballot{{}, of(0, 4), of(1, 0), of(1, 3), of(5, -1), of(math.MaxUint64-1, math.MaxInt)} {
			l := lead.New(2, 3)
			b, e := l.Begin(seen, from)
			if b != of(seen.Round+1, 2) || e != api.OK {
				t.Fatalf("Begin(%v, %d) = %v, %d", seen, from, b, e)
			}
			expectAsking(t, "behind Begin", l, b)
		}
	}
}

func TestBeginRefused(t *testing.T) { // P20.1, P1
	idle := lead.New(1, 3)
	asks, a := asking(t, 3, 2)
	asks.Promise(0, a, []letter.Vote{vote(3, of(1, 0), "v")})
	leads, b := leading(t, 2, vote(3, of(1, 0), "v"))
	for _, c := range []struct {
		seen ballot.Ballot
		from int
		want api.Errno
	}{
		{of(9, 0), -1, api.ErrArg}, {of(9, 0), math.MinInt, api.ErrArg},
		{of(9, 0), api.MaxLog + 1, api.ErrArg}, {of(9, 0), math.MaxInt, api.ErrArg},
		{of(math.MaxUint64, 0), -1, api.ErrArg}, {of(math.MaxUint64, 0), api.MaxLog + 1, api.ErrArg},
		{of(math.MaxUint64, 0), 0, api.ErrFull}, {of(math.MaxUint64, -1), api.MaxLog, api.ErrFull},
	} {
		for _, l := range []*lead.Lead{idle, asks, leads} {
			if got, e := l.Begin(c.seen, c.from); got != (ballot.Ballot{}) || e != c.want {
				t.Errorf("Begin(%v, %d) = %v, %d; want %d", c.seen, c.from, got, e, c.want)
			}
		}
	}
	expectIdle(t, "refused", idle)
	expectAsking(t, "refused", asks, a)
	expect(t, "refused", leads, lead.Leads, b, 4, vote(2, b, ""), vote(3, b, "v"))
	if asks.Promise(0, a, nil) || !asks.Promise(2, a, nil) {
		t.Error("the promise that counted")
	}
	expect(t, "what counted", asks, lead.Leads, a, 4, vote(2, a, ""), vote(3, a, "v"))
}

// Neither promises nor votes, proposals nor who accepted them outlast a new beginning.
func TestBeginAnew(t *testing.T) { // P20.1
	l, b := asking(t, 3, 0)
	l.Promise(0, b, []letter.Vote{vote(5, of(1, 0), "v")})
	b = begun(t, l, b, 0)
	if l.Promise(0, of(5, 1), nil) || l.Promise(0, b, nil) || !l.Promise(1, b, nil) {
		t.Error("promises behind a new beginning")
	}
	expect(t, "no vote of the new ballot", l, lead.Leads, b, 0)
	l.Propose("x")
	l.Accepted(0, b, 0)
	b = begun(t, l, b, 0)
	expectAsking(t, "behind leading", l, b)
	if _, e := l.Propose("y"); e != api.ErrState {
		t.Error("Propose", e)
	}
	if _, is := l.Accepted(1, b, 0); is {
		t.Error("what was proposed ahead of it")
	}
	l.Promise(0, b, []letter.Vote{vote(0, of(6, 1), "x")})
	l.Promise(1, b, nil)
	if _, is := l.Accepted(1, b, 0); is {
		t.Error("who accepted ahead of it")
	}
	if val, is := l.Accepted(2, b, 0); val != "x" || !is {
		t.Error("two that accepted", val, is)
	}
}

// With what was seen before, the same ballot comes again, and nothing counts yet.
func TestBeginAgain(t *testing.T) { // P20.1
	l, b := asking(t, 3, 3)
	l.Promise(0, b, nil)
	if again := begun(t, l, of(4, 0), 1); again != b {
		t.Fatal("the next ballot behind the same one", again)
	}
	if l.Promise(0, b, []letter.Vote{vote(2, of(1, 0), "v")}) || !l.Promise(2, b, nil) {
		t.Error("promises")
	}
	expect(t, "from the new slot on", l, lead.Leads, b, 3, vote(1, b, ""), vote(2, b, "v"))
}

func TestQuit(t *testing.T) { // P20.1
	idle := lead.New(1, 3)
	asks, a := asking(t, 3, 2)
	asks.Promise(0, a, []letter.Vote{vote(3, of(1, 0), "v")})
	leads, b := leading(t, 2, vote(3, of(1, 0), "v"))
	for _, l := range []*lead.Lead{idle, asks, leads} {
		l.Quit()
		l.Quit()
		expectIdle(t, "behind Quit", l)
		for _, of := range []ballot.Ballot{{}, b} {
			if l.Promise(1, of, nil) || l.Promise(2, of, nil) {
				t.Error("a promise to one that is Idle")
			}
			if val, is := l.Accepted(1, of, 3); val != "" || is {
				t.Error("accepted of one that is Idle", val, is)
			}
		}
		if slot, e := l.Propose("v"); slot != 0 || e != api.ErrState {
			t.Error("Propose of one that is Idle", slot, e)
		}
		expectIdle(t, "still", l)
		again := begun(t, l, of(4, 2), 0)
		if again != of(5, 1) || l.Promise(0, again, nil) || !l.Promise(2, again, nil) {
			t.Error("who it is, and of how many, stays")
		}
		expect(t, "begun anew", l, lead.Leads, again, 0)
	}
}

func TestPromiseNotHeard(t *testing.T) { // P20.2, P1
	some := []letter.Vote{vote(3, of(9, 0), "x"), vote(9, of(9, 0), "y")}
	for _, n := range []int{1, 2, 3, 4, 5} {
		l := lead.New(1, n)
		if l.Promise(0, ballot.Ballot{}, some) {
			t.Error("a promise to one that is Idle")
		}
		b := begun(t, l, of(4, 2), 2)
		for node := range n {
			for _, other := range notHeard(b) {
				if l.Promise(node, other, some) {
					t.Errorf("of %d: Promise(%d, %v) to %v", n, node, other, b)
				}
			}
		}
		for _, node := range noMasters(n) {
			if l.Promise(node, b, some) {
				t.Errorf("of %d: a promise of %d", n, node)
			}
		}
		expectAsking(t, "none was heard", l, b)
		for node := range n/2 + 1 {
			if l.Promise(node, b, nil) != (node == n/2) {
				t.Errorf("of %d: promise %d", n, node)
			}
		}
		expect(t, "no vote of those counts", l, lead.Leads, b, 2)
	}
}

func TestPromiseOnceEach(t *testing.T) { // P20.2
	l, b := asking(t, 5, 0)
	for range 3 {
		for _, node := range []int{4, 1} {
			if l.Promise(node, b, nil) {
				t.Fatal("two promises of five")
			}
		}
	}
	// What comes beside a promise that counted already is not heard.
	if l.Promise(4, b, []letter.Vote{vote(0, of(3, 0), "late")}) {
		t.Error("the same one again")
	}
	if !l.Promise(0, b, nil) {
		t.Error("three promises of five")
	}
	for node := range 5 {
		if l.Promise(node, b, []letter.Vote{vote(0, of(3, 0), "late")}) {
			t.Error("a promise to one that leads", node)
		}
	}
	expect(t, "all promised", l, lead.Leads, b, 0)
}

func TestPromiseVotes(t *testing.T) { // P20.2
	for _, c := range []struct {
		name     string
		from     int
		one, two []letter.Vote
		want     []string
	}{
		{"no votes", 3, nil, nil, nil},
		{"one", 0, []letter.Vote{vote(0, of(1, 0), "a")}, nil, []string{"a"}},
		{"one of the second", 0, nil, []letter.Vote{vote(0, of(1, 0), "a")}, []string{"a"}},
		{"a gap", 1, []letter.Vote{vote(4, of(1, 0), "a")}, []letter.Vote{vote(2, of(1, 0), "b")}, []string{"", "b", "", "a"}},
		{"the greater round", 0, []letter.Vote{vote(0, of(1, 4), "a")}, []letter.Vote{vote(0, of(2, 0), "b")}, []string{"b"}},
		{"the greater round first", 0, []letter.Vote{vote(0, of(2, 0), "b")}, []letter.Vote{vote(0, of(1, 4), "a")}, []string{"b"}},
		{"the greater node", 0, []letter.Vote{vote(0, of(2, 0), "a")}, []letter.Vote{vote(0, of(2, 3), "b")}, []string{"b"}},
		{"the greater node first", 0, []letter.Vote{vote(0, of(2, 3), "b")}, []letter.Vote{vote(0, of(2, 0), "a")}, []string{"b"}},
		{"the same ballot", 0, []letter.Vote{vote(0, of(2, 3), "a")}, []letter.Vote{vote(0, of(2, 3), "b")}, []string{"a"}},
		{"all in one list", 0, []letter.Vote{vote(0, of(2, 3), "a"), vote(0, of(2, 3), "b"), vote(0, of(3, 0), "c"), vote(0, of(3, 0), "d"), vote(0, of(1, 4), "e")}, nil, []string{"c"}},
		{"empty in place of another", 0, []letter.Vote{vote(0, of(1, 3), "a")}, []letter.Vote{vote(0, of(2, 3), "")}, []string{""}},
		{"the empty one first", 0, []letter.Vote{vote(0, of(2, 3), "")}, []letter.Vote{vote(0, of(2, 3), "a")}, []string{""}},
		{"the zero ballot counts", 0, []letter.Vote{vote(0, of(0, 0), "a")}, []letter.Vote{vote(0, of(0, 0), "b")}, []string{"a"}},
		{"so does a lesser one", 0, []letter.Vote{vote(0, of(0, -7), "a")}, nil, []string{"a"}},
		{"and a greater one", 0, []letter.Vote{vote(0, of(0, -7), "a"), vote(0, of(0, -6), "b")}, nil, []string{"b"}},
		{"above its own ballot", 0, []letter.Vote{vote(0, of(math.MaxUint64, 9), "a")}, []letter.Vote{vote(0, of(4, 0), "b")}, []string{"a"}},
		{"slots in any order", 0, []letter.Vote{vote(2, of(1, 0), "c"), vote(0, of(1, 0), "a"), vote(1, of(1, 0), "b")}, nil, []string{"a", "b", "c"}},
		{"slots that are past", 2, []letter.Vote{vote(1, of(9, 0), "a"), vote(0, of(9, 0), "b"), vote(-1, of(9, 0), "c"), vote(math.MinInt, of(9, 0), "d"), vote(2, of(1, 0), "e")}, nil, []string{"e"}},
		{"past slots alone", 2, []letter.Vote{vote(1, of(9, 0), "a")}, nil, nil},
		{"slots that are none", 398, []letter.Vote{vote(400, of(9, 0), "a"), vote(401, of(9, 0), "b"), vote(1<<20, of(9, 0), "c"), vote(math.MaxInt, of(9, 0), "d"), vote(398, of(1, 0), "e")}, nil, []string{"e"}},
		{"the last slot", 398, nil, []letter.Vote{vote(399, of(1, 0), "z")}, []string{"", "z"}},
		{"no slot is left", 400, []letter.Vote{vote(400, of(1, 0), "a"), vote(399, of(1, 0), "b")}, nil, nil},
		{"a long value", 0, []letter.Vote{vote(0, of(1, 0), strings.Repeat("v", api.MaxVal+1))}, nil, []string{strings.Repeat("v", api.MaxVal+1)}},
	} {
		l, b := asking(t, 3, c.from)
		if l.Promise(2, b, c.one) || !l.Promise(0, b, c.two) {
			t.Fatalf("%s: two promises of three", c.name)
		}
		var want []letter.Vote
		for i, val := range c.want {
			want = append(want, vote(c.from+i, b, val))
		}
		expect(t, c.name, l, lead.Leads, b, c.from+len(want), want...)
	}
}

// All slots have votes, most of them several.
func TestPromiseAllSlots(t *testing.T) { // P20.2
	l, b := asking(t, 3, 0)
	var one, two, want []letter.Vote
	for slot := range api.MaxLog {
		one = append(one, vote(slot, of(2, slot%3), "one"))
		two = append(two, vote(api.MaxLog-1-slot, of(2, 1), "two"))
		val := "one"
		if slot%3 == 0 {
			val = "two"
		}
		want = append(want, vote(slot, b, val))
	}
	if l.Promise(1, b, one) || !l.Promise(0, b, two) {
		t.Fatal("two promises of three")
	}
	expect(t, "all slots", l, lead.Leads, b, api.MaxLog, want...)
	if _, e := l.Propose("v"); e != api.ErrFull {
		t.Error("one more", e)
	}
}

// Votes are not kept as they were handed in, nor changed.
func TestPromiseLeavesItsVotes(t *testing.T) { // P20.2, rules 4 and 5
	l, b := asking(t, 3, 0)
	votes := []letter.Vote{vote(1, of(1, 0), "b"), vote(0, of(1, 0), "a")}
	l.Promise(1, b, votes)
	if !slices.Equal(votes, []letter.Vote{vote(1, of(1, 0), "b"), vote(0, of(1, 0), "a")}) {
		t.Error("the list was changed", votes)
	}
	votes[0] = vote(7, of(9, 0), "x")
	l.Promise(2, b, nil)
	expect(t, "behind writing into the list", l, lead.Leads, b, 2, vote(0, b, "a"), vote(1, b, "b"))
}

func TestOpenIsACopy(t *testing.T) { // P20.4, rule 4
	l, b := leading(t, 0, vote(0, of(1, 0), "a"), vote(1, of(1, 0), "b"))
	got, other := l.Open(), l.Open()
	got[0] = vote(7, of(9, 0), "x")
	_ = append(got[:1], vote(8, of(9, 0), "y"))
	if !slices.Equal(other, []letter.Vote{vote(0, b, "a"), vote(1, b, "b")}) {
		t.Error("two answers share memory", other)
	}
	expect(t, "behind writing into an answer", l, lead.Leads, b, 2, vote(0, b, "a"), vote(1, b, "b"))
}

func TestPropose(t *testing.T) { // P20.3, P20.4
	l, b := leading(t, 5, vote(6, of(1, 0), "v"))
	want := []letter.Vote{vote(5, b, ""), vote(6, b, "v")}
	for i, val := range []string{"a", "", "a", strings.Repeat("v", api.MaxVal), "\x00\xff"} {
		if slot, e := l.Propose(val); slot != 7+i || e != api.OK {
			t.Fatalf("Propose(%q) = %d, %d", val, slot, e)
		}
		want = append(want, vote(7+i, b, val))
		expect(t, "behind Propose", l, lead.Leads, b, 8+i, want...)
	}
}

func TestProposeRefused(t *testing.T) { // P20.3, P1
	idle := lead.New(1, 3)
	asks, a := asking(t, 3, 0)
	leads, b := leading(t, 2)
	full, f := leading(t, api.MaxLog)
	long := strings.Repeat("v", api.MaxVal+1)
	for _, c := range []struct {
		l    *lead.Lead
		val  string
		want api.Errno
	}{
		{idle, "", api.ErrState}, {asks, "v", api.ErrState}, {full, "", api.ErrFull}, {full, "v", api.ErrFull},
		{idle, long, api.ErrArg}, {asks, long, api.ErrArg}, {leads, long, api.ErrArg}, {full, long, api.ErrArg},
		{leads, strings.Repeat("v", 1<<20), api.ErrArg},
	} {
		if slot, e := c.l.Propose(c.val); slot != 0 || e != c.want {
			t.Errorf("Propose of %d bytes = %d, %d; want %d", len(c.val), slot, e, c.want)
		}
	}
	expectIdle(t, "refused", idle)
	expectAsking(t, "refused", asks, a)
	expect(t, "refused", leads, lead.Leads, b, 2)
	expect(t, "refused", full, lead.Leads, f, api.MaxLog)
}

func TestProposeUpToTheLastSlot(t *testing.T) { // P20.3
	l, b := leading(t, api.MaxLog-2)
	for slot := api.MaxLog - 2; slot < api.MaxLog; slot++ {
		if got, e := l.Propose("v"); got != slot || e != api.OK {
			t.Fatalf("slot %d: %d, %d", slot, got, e)
		}
	}
	for range 2 {
		if got, e := l.Propose("v"); got != 0 || e != api.ErrFull {
			t.Fatalf("behind the last one: %d, %d", got, e)
		}
	}
	l.Accepted(0, b, api.MaxLog-1)
	if val, is := l.Accepted(1, b, api.MaxLog-1); val != "v" || !is {
		t.Error("the last slot", val, is)
	}
	if _, e := l.Propose("v"); e != api.ErrFull {
		t.Error("what is chosen makes no room", e)
	}
	expect(t, "the last slot is chosen", l, lead.Leads, b, api.MaxLog, vote(api.MaxLog-2, b, "v"))
}

func TestAccepted(t *testing.T) { // P20.3
	for n := 1; n <= api.MaxMasters; n++ {
		l := lead.New(1, n)
		b := begun(t, l, ballot.Ballot{}, 0)
		for node := range n/2 + 1 {
			l.Promise(node, b, []letter.Vote{vote(2, of(0, 1), "old")})
		}
		l.Propose("new")
		for slot, want := range []string{"", "", "old", "new"} {
			for node := n - 1; node >= 0; node-- {
				chosen := n-node == n/2+1
				val, is := l.Accepted(node, b, slot)
				if is != chosen || is && val != want || !is && val != "" {
					t.Fatalf("of %d: Accepted(%d, %d) = %q, %v", n, node, slot, val, is)
				}
				if again, is := l.Accepted(node, b, slot); again != "" || is {
					t.Fatalf("of %d: Accepted(%d, %d) again = %q, %v", n, node, slot, again, is)
				}
			}
			if len(l.Open()) != 3-slot {
				t.Fatalf("of %d: %v is open behind slot %d", n, l.Open(), slot)
			}
		}
		expect(t, "all are chosen", l, lead.Leads, b, 4)
	}
}

func TestAcceptedNotHeard(t *testing.T) { // P20.3, P1
	l, b := leading(t, 2, vote(3, of(1, 0), "v"))
	for node := range 3 {
		for _, other := range notHeard(b) {
			if val, is := l.Accepted(node, other, 3); val != "" || is {
				t.Errorf("Accepted(%d, %v, 3) = %q, %v", node, other, val, is)
			}
		}
		for _, slot := range []int{-1, 0, 1, 4, 5, api.MaxLog, 3 + 1<<32, math.MaxInt, math.MinInt} {
			if val, is := l.Accepted(node, b, slot); val != "" || is {
				t.Errorf("Accepted(%d, slot %d) = %q, %v", node, slot, val, is)
			}
		}
	}
	for _, node := range noMasters(3) {
		if val, is := l.Accepted(node, b, 3); val != "" || is {
			t.Errorf("accepted by %d: %q, %v", node, val, is)
		}
	}
	expect(t, "none was heard", l, lead.Leads, b, 4, vote(2, b, ""), vote(3, b, "v"))
	if _, is := l.Accepted(0, b, 3); is {
		t.Error("one of those counted")
	}
	asks, a := asking(t, 1, 0)
	if val, is := asks.Accepted(0, a, 0); val != "" || is {
		t.Error("of one that asks", val, is)
	}
	expectAsking(t, "not heard", asks, a)
}

// Slots are chosen in any order, and what stands open is told by slots.
func TestOpen(t *testing.T) { // P20.4
	l, b := leading(t, 0)
	for range 20 {
		l.Propose("v")
	}
	open := map[int]struct{}{}
	for slot := range 20 {
		open[slot] = struct{}{}
	}
	for i := range 20 {
		slot := i * 7 % 20
		l.Accepted(2, b, slot)
		if val, is := l.Accepted(1, b, slot); val != "v" || !is {
			t.Fatalf("slot %d: %q, %v", slot, val, is)
		}
		delete(open, slot)
		var want []letter.Vote
		for at := range 20 {
			if _, there := open[at]; there {
				want = append(want, vote(at, b, "v"))
			}
		}
		expect(t, "in any order", l, lead.Leads, b, 20, want...)
	}
}
