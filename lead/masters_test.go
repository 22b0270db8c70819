package lead_test

import (
	"math/rand"
	"strconv"
	"testing"

	"sautoir/accept"
	"sautoir/api"
	"sautoir/ballot"
	"sautoir/lead"
	"sautoir/letter"
)

// one of masters has an acceptor and a lead; what was seen hurries its next ballot, nothing else.
type one struct {
	acceptor *accept.Acceptor
	lead     *lead.Lead
	seen     ballot.Ballot
}

// masters are n of them, what is on the way, and what was told to be chosen.
type masters struct {
	t        *testing.T
	r        *rand.Rand
	all      []*one
	way      []letter.Letter
	chosen   map[int]string
	ballots  map[int]map[ballot.Ballot]struct{}
	proposed int
}

// slots are few, so that many ballots meet in each.
const slots = 4

func newMasters(t *testing.T, r *rand.Rand, n int) *masters {
	m := &masters{t: t, r: r, chosen: map[int]string{}, ballots: map[int]map[ballot.Ballot]struct{}{}}
	for me := range n {
		m.all = append(m.all, &one{acceptor: accept.New(), lead: lead.New(me, n)})
	}
	return m
}

func (m *masters) send(from, to int, l letter.Letter) {
	l.From, l.To = letter.Addr{Kind: letter.Master, N: from}, letter.Addr{Kind: letter.Master, N: to}
	m.way = append(m.way, l)
}

// begin has master me begin anew: its own acceptor promises first, and is asked like others behind that.
func (m *masters) begin(me int) {
	x := m.all[me]
	from := m.r.Intn(2)
	b, e := x.lead.Begin(ballot.Max(x.seen, x.acceptor.Promised()), from)
	if e != api.OK {
		m.t.Fatalf("Begin = %d", e)
	}
	if _, e := x.acceptor.Prepare(b, from); e != api.OK {
		m.t.Fatalf("its own acceptor refuses %v: %d", b, e)
	}
	for to := range m.all {
		m.send(me, to, letter.Letter{Kind: letter.Prepare, N: from, Ballot: b})
	}
}

// propose has master me, if it leads, ask all for a value of its own, or for what stands open.
func (m *masters) propose(me int) {
	x := m.all[me]
	if x.lead.Next() < slots {
		m.proposed++
		x.lead.Propose(strconv.Itoa(m.proposed))
	}
	for _, v := range x.lead.Open() {
		for to := range m.all {
			if m.r.Intn(3) > 0 {
				m.send(me, to, letter.Letter{Kind: letter.Accept, N: v.Slot, Ballot: v.Ballot, Val: v.Val})
			}
		}
	}
}

// hear has a letter heard by whom it is to.
func (m *masters) hear(l letter.Letter) {
	from, me := l.From.N, l.To.N
	x := m.all[me]
	x.seen = ballot.Max(x.seen, l.Ballot)
	switch l.Kind {
	case letter.Prepare:
		if votes, e := x.acceptor.Prepare(l.Ballot, l.N); e == api.OK {
			m.send(me, from, letter.Letter{Kind: letter.Promise, Ballot: l.Ballot, Votes: votes})
		}
	case letter.Promise:
		x.lead.Promise(from, l.Ballot, l.Votes)
	case letter.Accept:
		if e := x.acceptor.Accept(vote(l.N, l.Ballot, l.Val)); e == api.OK {
			m.send(me, from, letter.Letter{Kind: letter.Accepted, N: l.N, Ballot: l.Ballot})
		}
	case letter.Accepted:
		if val, is := x.lead.Accepted(from, l.Ballot, l.N); is {
			m.choose(l.N, val, l.Ballot)
		}
	}
}

// choose holds that no slot has two values.
func (m *masters) choose(slot int, val string, b ballot.Ballot) {
	if old, there := m.chosen[slot]; there && old != val {
		m.t.Fatalf("slot %d: %q was chosen, and now %q, by %v", slot, old, val, b)
	}
	if m.ballots[slot] == nil {
		m.ballots[slot] = map[ballot.Ballot]struct{}{}
	}
	m.chosen[slot] = val
	m.ballots[slot][b] = struct{}{}
}

// deliver takes some letter: it is heard, heard and left on the way, or lost.
func (m *masters) deliver() {
	if len(m.way) == 0 {
		return
	}
	at := m.r.Intn(len(m.way))
	l := m.way[at]
	if m.r.Intn(8) > 0 {
		m.way[at] = m.way[len(m.way)-1]
		m.way = m.way[:len(m.way)-1]
	}
	if m.r.Intn(10) > 0 {
		m.hear(l)
	}
}

func (m *masters) step() {
	me := m.r.Intn(len(m.all))
	switch k := m.r.Intn(60); {
	case k == 0:
		m.begin(me)
	case k == 1 && m.r.Intn(4) == 0:
		m.all[me].lead.Quit()
	case k < 6:
		m.propose(me)
	default:
		m.deliver()
	}
}

func TestOneValueIsChosen(t *testing.T) { // P20.5
	r := rand.New(rand.NewSource(205))
	chosen, again := 0, 0
	for i := range 600 {
		m := newMasters(t, r, 1+i%api.MaxMasters)
		for range 1500 {
			m.step()
		}
		chosen += len(m.chosen)
		for _, l := range m.ballots {
			again += len(l) - 1
		}
	}
	// If nothing were chosen, or nothing by two leads, the test would tell nothing.
	if chosen < 1000 || again < 1000 {
		t.Errorf("%d slots were chosen, %d times again by a later ballot", chosen, again)
	}
}
