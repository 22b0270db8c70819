package links_test

import (
	"math/rand"
	"testing"

	"sautoir/api"
	"sautoir/entry"
	"sautoir/links"
)

// sent is a piece on its way: it may come late, twice or never.
type sent struct {
	prev  int
	epoch uint64
	piece []entry.Entry
}

// member is a log, and the epoch whose entries are Added to it; 0, if there is none.
type member struct {
	log   *links.Log
	heads uint64
}

// group is members that take pieces from one another.
type group struct {
	members    []*member
	way        []sent
	epoch, seq uint64
	cuts       int
}

func newGroup(n int) *group {
	g := &group{}
	for range n {
		g.members = append(g.members, &member{log: links.New()})
	}
	return g
}

// begin lets m head the next epoch.
func (g *group) begin(m *member) {
	g.epoch++
	m.heads = g.epoch
}

// add puts an entry that no log has behind those of m, if m heads an epoch.
func (g *group) add(m *member) {
	if m.heads == 0 {
		return
	}
	g.seq++
	m.log.Add(one(m.heads, g.seq))
}

// send puts a piece of m's log on the way.
func (g *group) send(r *rand.Rand, m *member) {
	prev := r.Intn(m.log.Len() + 1)
	g.way = append(g.way, sent{prev: prev, epoch: m.log.Epoch(prev), piece: m.log.From(prev, 1+r.Intn(6))})
}

// take lets m take s, if it fits. Who is cut heads no more: its entries would not be one behind the other.
func (g *group) take(t *testing.T, m *member, s sent) {
	if !m.log.Fits(s.prev, s.epoch) {
		return
	}
	n := m.log.Same(s.prev, s.piece)
	if n == len(s.piece) {
		return
	}
	m.heads = 0
	if m.log.Len() > s.prev+n {
		g.cuts++
		if m.log.Cut(s.prev+n) != api.OK {
			t.Fatal("what is the same can't be left")
		}
	}
	for _, e := range s.piece[n:] {
		if got := m.log.Add(e); got != api.OK {
			t.Fatalf("a piece that fits can't be Added: %d", got)
		}
	}
}

func (g *group) step(t *testing.T, r *rand.Rand) {
	m := g.members[r.Intn(len(g.members))]
	switch x := r.Intn(20); {
	case x == 0:
		g.begin(m)
	case x < 6:
		g.add(m)
	case x < 11:
		g.send(r, m)
	case len(g.way) > 0:
		g.take(t, m, g.way[r.Intn(len(g.way))])
	}
}

// match holds two logs against each other, up to the last number at which they have entries of one epoch.
func match(t *testing.T, a, b *links.Log) {
	t.Helper()
	last := min(a.Len(), b.Len())
	for last > 0 && a.Epoch(last) != b.Epoch(last) {
		last--
	}
	for i := 1; i <= last; i++ {
		x, _ := a.At(i)
		y, _ := b.At(i)
		if !entry.Same(x, y) {
			t.Fatalf("entries %d are of one epoch, entries %d are %v and %v", last, i, x, y)
		}
	}
}

func TestMatching(t *testing.T) { // P15.3
	r := rand.New(rand.NewSource(3))
	cuts := 0
	for range 60 {
		g := newGroup(2 + r.Intn(4))
		for range 400 {
			g.step(t, r)
			for i, a := range g.members {
				for _, b := range g.members[:i] {
					match(t, a.log, b.log)
				}
			}
		}
		cuts += g.cuts
	}
	if cuts < 60 {
		t.Errorf("only %d logs were cut: too few to try it", cuts)
	}
}
