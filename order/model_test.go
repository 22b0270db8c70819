package order_test

import (
	"math/rand"
	"slices"
	"testing"

	"sautoir/api"
	"sautoir/conf"
	"sautoir/order"
)

// plain is the order once more: chains of members, without any of the layers.
type plain struct {
	setup   order.Setup
	n       int
	counter uint64
	shards  []chain
}

type chain struct {
	epoch   uint64
	members []member
	learner int
}

type member struct {
	node int
	full bool
}

func newPlain(s order.Setup) *plain {
	p := &plain{setup: s, counter: uint64(s.Shards)}
	for node := range s.Shards * s.Length {
		if node%s.Length == 0 {
			p.shards = append(p.shards, chain{epoch: uint64(len(p.shards) + 1), learner: -1})
		}
		last := &p.shards[len(p.shards)-1]
		last.members = append(last.members, member{node: node, full: true})
	}
	return p
}

func (c *chain) place(node int) int {
	return slices.IndexFunc(c.members, func(m member) bool { return m.node == node })
}

func (p *plain) has(node int) bool {
	return slices.ContainsFunc(p.shards, func(c chain) bool { return c.learner == node || c.place(node) >= 0 })
}

// apply does what c says, and answers the error.
func (p *plain) apply(c order.Cmd) api.Errno {
	p.n++
	if c.Shard >= len(p.shards) || c.Node >= p.setup.Servers {
		return api.ErrArg
	}
	shard := &p.shards[c.Shard]
	if c.Epoch != shard.epoch {
		return api.ErrStale
	}
	e := p.change(shard, c.Kind, c.Node)
	if e == api.OK && c.Kind != order.Mark {
		p.counter++
		shard.epoch = p.counter
	}
	return e
}

func (p *plain) change(c *chain, kind, node int) api.Errno {
	place := c.place(node)
	switch kind {
	case order.Remove:
		return c.remove(place, node)
	case order.Learn:
		if p.has(node) {
			return api.ErrThere
		}
		if c.learner >= 0 {
			return api.ErrState
		}
		c.learner = node
	case order.Promote:
		if c.learner != node {
			return api.ErrNone
		}
		c.members, c.learner = append(c.members, member{node: node}), -1
	case order.Mark:
		if place < 0 {
			return api.ErrNone
		}
		if c.members[place].full {
			return api.ErrThere
		}
		c.members[place].full = true
	}
	return api.OK
}

func (c *chain) remove(place, node int) api.Errno {
	if c.learner == node {
		c.learner = -1
		return api.OK
	}
	if place < 0 {
		return api.ErrNone
	}
	if len(c.members) == 1 || place == 0 && !c.members[1].full {
		return api.ErrState
	}
	c.members = append(slices.Clone(c.members[:place]), c.members[place+1:]...)
	return api.OK
}

func (p *plain) confs() []conf.Conf {
	var out []conf.Conf
	for shard, c := range p.shards {
		d := conf.Conf{Epoch: c.epoch, Shard: shard, Learner: c.learner}
		for _, m := range c.members {
			d.Chain, d.Full = append(d.Chain, m.node), append(d.Full, m.full)
		}
		out = append(out, d)
	}
	return out
}

// randomCmd answers one that most often is of the epoch of its shard.
func randomCmd(r *rand.Rand, s *order.State) order.Cmd {
	c := cmd(1+r.Intn(4), r.Intn(s.Setup().Shards), 1, r.Intn(s.Setup().Servers))
	if r.Intn(20) == 0 {
		c.Shard, c.Node = r.Intn(api.MaxShards), r.Intn(api.MaxServers)
	}
	d, _ := s.Conf(c.Shard)
	c.Epoch = max(1, d.Epoch)
	if r.Intn(20) == 0 {
		c.Epoch = max(1, c.Epoch+uint64(r.Intn(5))-2)
	}
	switch {
	// Else a Learner would hardly ever be promoted, or a promoted one marked.
	case c.Kind == order.Promote && d.Learner >= 0 && r.Intn(2) == 0:
		c.Node = d.Learner
	case c.Kind == order.Mark && len(d.Chain) > 0 && r.Intn(2) == 0:
		c.Node = d.Tail()
	}
	return c
}

func randomSetup(r *rand.Rand) order.Setup {
	s := order.Setup{Shards: 1 + r.Intn(api.MaxShards)}
	s.Length = 1 + r.Intn(api.MaxServers/s.Shards)
	s.Servers = s.Shards*s.Length + r.Intn(api.MaxServers-s.Shards*s.Length+1)
	return s
}

// TestAlways applies rows of commands to two states, and holds them against the plain one, and against what follows.
func TestAlways(t *testing.T) { // P21.4, P21.2, P21.3
	r := rand.New(rand.NewSource(214))
	told := map[api.Errno]int{}
	done := map[int]int{}
	for range 300 {
		setup := randomSetup(r)
		a, b, p := order.New(setup), order.New(setup), newPlain(setup)
		epochs := map[uint64]int{}
		for shard := range setup.Shards {
			epochs[uint64(shard)+1] = shard
		}
		for range 150 {
			c := randomCmd(r, a)
			before := a.Confs()
			want := p.apply(c)
			e, f := a.Apply(put(t, c)), b.Apply(put(t, c))
			if e != want || f != want {
				t.Fatalf("%v: Apply of %v = %d, %d; want %d", before, c, e, f, want)
			}
			told[e]++
			if e == api.OK {
				done[c.Kind]++
			}
			if !order.Same(a, b) {
				t.Fatal("two states behind the same commands are not the same")
			}
			expect(t, "behind a command", a, setup, p.n, p.counter, p.confs()...)
			expectAlone(t, a)
			expectNewEpoch(t, before, a.Confs(), c, e, epochs)
		}
	}
	for _, e := range []api.Errno{api.OK, api.ErrArg, api.ErrStale, api.ErrThere, api.ErrNone, api.ErrState} {
		if told[e] < 100 {
			t.Errorf("%d was told %d times: too few to try it", e, told[e])
		}
	}
	for kind := order.Remove; kind <= order.Mark; kind++ {
		if done[kind] < 100 {
			t.Errorf("%d was done %d times: too few to try it", kind, done[kind])
		}
	}
}

// expectAlone: no server is in two configurations, and each of these is right.
func expectAlone(t *testing.T, s *order.State) {
	t.Helper()
	seen := map[int]int{}
	for _, c := range s.Confs() {
		if !conf.Right(c) {
			t.Fatalf("%v is not right", c)
		}
		for _, node := range append(c.Chain, c.Learner) {
			if other, there := seen[node]; there && node >= 0 {
				t.Fatalf("%d is in shards %d and %d", node, other, c.Shard)
			}
			seen[node] = c.Shard
		}
	}
}

// expectNewEpoch: what was changed has an epoch that none had; what was not has its own.
func expectNewEpoch(t *testing.T, before, behind []conf.Conf, c order.Cmd, e api.Errno, epochs map[uint64]int) {
	t.Helper()
	for shard, d := range behind {
		if e != api.OK || shard != c.Shard {
			if !conf.Same(before[shard], d) {
				t.Fatalf("%v, which tells %d: %v became %v", c, e, before[shard], d)
			}
			continue
		}
		if conf.Same(before[shard], d) {
			t.Fatalf("%v is done, and changes nothing", c)
		}
		if other, there := epochs[d.Epoch]; there && c.Kind != order.Mark {
			t.Fatalf("%v: epoch %d was shard %d's", c, d.Epoch, other)
		}
		if c.Kind == order.Mark && d.Epoch != before[shard].Epoch {
			t.Fatalf("%v: a Mark has another epoch, %d", c, d.Epoch)
		}
		epochs[d.Epoch] = shard
	}
}
