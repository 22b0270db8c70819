package lead_test

import (
	"math/rand"
	"testing"

	"sautoir/api"
	"sautoir/ballot"
	"sautoir/lead"
	"sautoir/letter"
)

// model is a lead as the chapter tells it: it keeps all that it heard, and works out what that means when it is asked.
type model struct {
	me, n     int
	state     int
	ballot    ballot.Ballot
	from      int
	promised  []int
	votes     []letter.Vote
	proposals []*proposed
	next      int
}

// proposed is what is proposed, or was till it was chosen.
type proposed struct {
	slot     int
	val      string
	accepted map[int]struct{}
	chosen   bool
}

func (m *model) begin(seen ballot.Ballot, from int) (ballot.Ballot, api.Errno) {
	if from < 0 || from > api.MaxLog {
		return ballot.Ballot{}, api.ErrArg
	}
	if seen.Round+1 == 0 {
		return ballot.Ballot{}, api.ErrFull
	}
	*m = model{me: m.me, n: m.n, state: lead.Asking, ballot: of(seen.Round+1, m.me), from: from}
	return m.ballot, api.OK
}

func (m *model) heard(state, node int, b ballot.Ballot) bool {
	return m.state == state && m.ballot == b && node >= 0 && node < m.n
}

func (m *model) promise(node int, b ballot.Ballot, votes []letter.Vote) bool {
	if !m.heard(lead.Asking, node, b) {
		return false
	}
	for _, other := range m.promised {
		if other == node {
			return false
		}
	}
	m.promised = append(m.promised, node)
	m.votes = append(m.votes, votes...)
	if 2*len(m.promised) <= m.n {
		return false
	}
	m.state, m.next = lead.Leads, m.from
	for slot := m.from; slot < api.MaxLog; slot++ {
		for _, v := range m.votes {
			if v.Slot < slot || v.Slot >= api.MaxLog {
				continue
			}
			// Some vote that counts is of this slot, or one behind it.
			m.propose(m.best(slot))
			break
		}
	}
	return true
}

// best answers the value that the votes leave to a slot.
func (m *model) best(slot int) string {
	var l []letter.Vote
	for _, v := range m.votes {
		if v.Slot == slot {
			l = append(l, v)
		}
	}
	for _, v := range l {
		beaten := false
		for _, other := range l {
			beaten = beaten || ballot.Less(v.Ballot, other.Ballot)
		}
		if !beaten {
			return v.Val
		}
	}
	return ""
}

func (m *model) propose(val string) (int, api.Errno) {
	switch {
	case len(val) > api.MaxVal:
		return 0, api.ErrArg
	case m.state != lead.Leads:
		return 0, api.ErrState
	case m.next == api.MaxLog:
		return 0, api.ErrFull
	}
	m.proposals = append(m.proposals, &proposed{slot: m.next, val: val, accepted: map[int]struct{}{}})
	m.next++
	return m.next - 1, api.OK
}

func (m *model) accept(node int, b ballot.Ballot, slot int) (string, bool) {
	if !m.heard(lead.Leads, node, b) {
		return "", false
	}
	for _, p := range m.proposals {
		if p.slot != slot || p.chosen {
			continue
		}
		p.accepted[node] = struct{}{}
		if 2*len(p.accepted) > m.n {
			p.chosen = true
			return p.val, true
		}
	}
	return "", false
}

func (m *model) open() []letter.Vote {
	var l []letter.Vote
	for _, p := range m.proposals {
		if !p.chosen {
			l = append(l, vote(p.slot, m.ballot, p.val))
		}
	}
	return l
}

// anyBallot answers most of the time b, else one near it.
func anyBallot(r *rand.Rand, b ballot.Ballot) ballot.Ballot {
	if r.Intn(5) > 0 {
		return b
	}
	return of(b.Round+uint64(r.Intn(3))-1, b.Node+r.Intn(3)-1)
}

func anyVotes(r *rand.Rand, from int) []letter.Vote {
	var l []letter.Vote
	for range r.Intn(5) {
		l = append(l, vote(from+r.Intn(7)-1, of(uint64(r.Intn(3)), r.Intn(3)), string(rune('a'+r.Intn(4)))))
	}
	return l
}

// step does the same to l and m, and holds what both answer against each other.
func step(t *testing.T, r *rand.Rand, l *lead.Lead, m *model, base int) {
	t.Helper()
	node, b := r.Intn(m.n+2)-1, anyBallot(r, m.ballot)
	switch k := r.Intn(24); {
	case k < 2:
		seen, from := of(uint64(r.Intn(4)), r.Intn(5)), base+r.Intn(4)-1
		if r.Intn(9) == 0 {
			seen.Round = 1<<64 - 1
		}
		got, e := l.Begin(seen, from)
		if want, wantE := m.begin(seen, from); got != want || e != wantE {
			t.Fatalf("Begin(%v, %d) = %v, %d; want %v, %d", seen, from, got, e, want, wantE)
		}
	case k < 3:
		l.Quit()
		*m = model{me: m.me, n: m.n}
	case k < 9:
		votes := anyVotes(r, base)
		got := l.Promise(node, b, votes)
		if want := m.promise(node, b, votes); got != want {
			t.Fatalf("Promise(%d, %v, %v) = %v", node, b, votes, got)
		}
	case k < 12:
		got, e := l.Propose("x")
		if want, wantE := m.propose("x"); got != want || e != wantE {
			t.Fatalf("Propose = %d, %d; want %d, %d", got, e, want, wantE)
		}
	default:
		slot := base + r.Intn(10) - 1
		got, is := l.Accepted(node, b, slot)
		if want, wantIs := m.accept(node, b, slot); got != want || is != wantIs {
			t.Fatalf("Accepted(%d, %v, %d) = %q, %v; want %q, %v", node, b, slot, got, is, want, wantIs)
		}
	}
}

func TestAnyRow(t *testing.T) { // P20.1, P20.2, P20.3, P20.4
	r := rand.New(rand.NewSource(20))
	led := 0
	for range 3000 {
		m := &model{me: r.Intn(api.MaxMasters), n: 1 + r.Intn(api.MaxMasters)}
		l := lead.New(m.me, m.n)
		base := []int{0, 5, api.MaxLog - 4}[r.Intn(3)]
		for range 60 {
			step(t, r, l, m, base)
			expect(t, "a row of calls", l, m.state, m.ballot, m.next, m.open()...)
			if m.state == lead.Leads {
				led++
			}
		}
	}
	if led < 1000 {
		t.Error("hardly anybody led:", led)
	}
}
