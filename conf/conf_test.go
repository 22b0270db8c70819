package conf_test

import (
	"math"
	"math/rand"
	"slices"
	"testing"

	"sautoir/api"
	"sautoir/conf"
)

// chain answers a configuration of epoch 7 and shard 1, whose members are all Full.
func chain(learner int, l ...int) conf.Conf {
	c := conf.Conf{Epoch: 7, Shard: 1, Chain: l, Learner: learner}
	for range l {
		c.Full = append(c.Full, true)
	}
	return c
}

// partly answers c, of which only the members that are named are Full.
func partly(c conf.Conf, full ...int) conf.Conf {
	c.Full = nil
	for _, node := range c.Chain {
		c.Full = append(c.Full, slices.Contains(full, node))
	}
	return c
}

// with answers c, and one part of it changed.
func with(c conf.Conf, change func(*conf.Conf)) conf.Conf {
	c = clone(c)
	change(&c)
	return c
}

func clone(c conf.Conf) conf.Conf {
	c.Chain, c.Full = slices.Clone(c.Chain), slices.Clone(c.Full)
	return c
}

// rightConfs are right, at the edges that the chapter names.
func rightConfs() []conf.Conf {
	return []conf.Conf{
		chain(-1, 0),
		chain(-1, 7),
		chain(7, 0),
		chain(0, 7, 1),
		chain(4, 3, 1, 2),
		partly(chain(4, 3, 1, 2), 3),
		partly(chain(-1, 3, 1, 2), 3, 2),
		chain(-1, 7, 6, 5, 4, 3, 2, 1, 0),
		partly(chain(0, 1, 2, 3, 4, 5, 6, 7), 1),
		with(chain(-1, 0, 1), func(c *conf.Conf) { c.Epoch, c.Shard = 1, 0 }),
		with(chain(-1, 0, 1), func(c *conf.Conf) { c.Epoch, c.Shard = math.MaxUint64, api.MaxShards-1 }),
	}
}

// wrongConfs are each wrong for one reason, but the first one.
func wrongConfs() []conf.Conf {
	c := chain(4, 3, 1, 2)
	return []conf.Conf{
		{},
		with(c, func(c *conf.Conf) { c.Epoch = 0 }),
		with(c, func(c *conf.Conf) { c.Shard = -1 }),
		with(c, func(c *conf.Conf) { c.Shard = api.MaxShards }),
		with(c, func(c *conf.Conf) { c.Shard = math.MinInt }),
		with(c, func(c *conf.Conf) { c.Shard = math.MaxInt }),
		with(c, func(c *conf.Conf) { c.Chain, c.Full = nil, nil }),
		with(c, func(c *conf.Conf) { c.Chain = nil }),
		with(c, func(c *conf.Conf) { c.Full = nil }),
		with(c, func(c *conf.Conf) { c.Full = c.Full[:2] }),
		with(c, func(c *conf.Conf) { c.Full = append(c.Full, true) }),
		with(c, func(c *conf.Conf) { c.Full[0] = false }),
		with(c, func(c *conf.Conf) { c.Learner = -2 }),
		with(c, func(c *conf.Conf) { c.Learner = api.MaxServers }),
		with(c, func(c *conf.Conf) { c.Learner = math.MinInt }),
		with(c, func(c *conf.Conf) { c.Learner = math.MaxInt }),
		with(c, func(c *conf.Conf) { c.Learner = 3 }),
		with(c, func(c *conf.Conf) { c.Learner = 2 }),
		chain(4, 3, 1, 3),
		chain(-1, 1, 1),
		chain(-1, -1),
		chain(-1, 3, api.MaxServers),
		chain(-1, 3, math.MinInt),
		chain(-1, math.MaxInt, 3),
		chain(-1, make([]int, 100000)...),
		chain(-1, 0, 1, 2, 3, 4, 5, 6, 7, 0),
	}
}

// nodes are the servers, and numbers that are none.
func nodes() []int {
	return []int{-2, -1, 0, 1, 2, 3, 4, 5, 6, 7, 8, math.MinInt, math.MaxInt}
}

func isServer(node int) bool { return node >= 0 && node < api.MaxServers }

// place is where node stands in l; -1, if it doesn't.
func place(l []int, node int) int {
	for i, x := range l {
		if x == node {
			return i
		}
	}
	return -1
}

// randomConf answers one that is right.
func randomConf(r *rand.Rand) conf.Conf {
	all := r.Perm(api.MaxServers)
	n := 1 + r.Intn(api.MaxServers)
	c := conf.Conf{Epoch: uint64(1 + r.Intn(5)), Shard: r.Intn(api.MaxShards), Chain: all[:n:n], Learner: -1}
	for i := range n {
		c.Full = append(c.Full, i == 0 || r.Intn(2) == 0)
	}
	if n < api.MaxServers && r.Intn(2) == 0 {
		c.Learner = all[n]
	}
	return c
}

// zero tells whether c is the zero configuration.
func zero(c conf.Conf) bool { return conf.Same(c, conf.Conf{}) }

func TestRight(t *testing.T) { // P16.1
	for _, c := range rightConfs() {
		if !conf.Right(c) {
			t.Errorf("%v is not right", c)
		}
	}
	for i, c := range wrongConfs() {
		if conf.Right(c) {
			t.Errorf("%d of the wrong ones is right", i)
		}
	}
}

func TestSame(t *testing.T) { // P16.1
	c := chain(4, 3, 1, 2)
	for i, other := range []conf.Conf{
		{},
		with(c, func(c *conf.Conf) { c.Epoch++ }),
		with(c, func(c *conf.Conf) { c.Shard++ }),
		with(c, func(c *conf.Conf) { c.Learner = -1 }),
		with(c, func(c *conf.Conf) { c.Chain[2] = 5 }),
		with(c, func(c *conf.Conf) { c.Chain[1], c.Chain[2] = 2, 1 }),
		with(c, func(c *conf.Conf) { c.Full[2] = false }),
		with(c, func(c *conf.Conf) { c.Full[0] = false }),
		with(c, func(c *conf.Conf) { c.Chain = c.Chain[:2] }),
		with(c, func(c *conf.Conf) { c.Full = c.Full[:2] }),
		with(c, func(c *conf.Conf) { c.Full = append(c.Full, true) }),
	} {
		if conf.Same(c, other) || conf.Same(other, c) {
			t.Errorf("%d: %v is the same", i, other)
		}
	}
	for _, c := range append(rightConfs(), wrongConfs()...) {
		if !conf.Same(c, clone(c)) {
			t.Error("not the same as itself", c.Epoch, c.Shard, c.Learner)
		}
	}
	if !conf.Same(conf.Conf{Chain: []int{}, Full: []bool{}}, conf.Conf{}) {
		t.Error("an empty list is another one than none")
	}
}

// expectPlaces holds all that is told of the places in c, which is right.
func expectPlaces(t *testing.T, c conf.Conf) {
	t.Helper()
	l := c.Chain
	if c.Head() != l[0] || c.Tail() != l[len(l)-1] {
		t.Errorf("%v: from %d to %d", c, c.Head(), c.Tail())
	}
	for _, node := range nodes() {
		i := place(l, node)
		next, prev := -1, -1
		if i >= 0 && i+1 < len(l) {
			next = l[i+1]
		}
		if i > 0 {
			prev = l[i-1]
		}
		if c.Place(node) != i || c.Next(node) != next || c.Prev(node) != prev {
			t.Errorf("%v: %d has place %d, %d behind it, %d ahead", c, node, c.Place(node), c.Next(node), c.Prev(node))
		}
		if c.Has(node) != (i >= 0 || isServer(node) && c.Learner == node) {
			t.Errorf("%v: Has(%d) = %v", c, node, c.Has(node))
		}
	}
}

func TestPlaces(t *testing.T) { // P16.1
	for _, c := range rightConfs() {
		expectPlaces(t, c)
	}
	r := rand.New(rand.NewSource(16))
	for range 300 {
		expectPlaces(t, randomConf(r))
	}
}

func TestPlacesByHand(t *testing.T) { // P16.1
	c := chain(4, 3, 1, 2)
	if c.Head() != 3 || c.Tail() != 2 || c.Next(3) != 1 || c.Next(1) != 2 || c.Next(2) != -1 || c.Prev(2) != 1 || c.Prev(1) != 3 || c.Prev(3) != -1 {
		t.Error("who stands beside whom")
	}
	if c.Place(3) != 0 || c.Place(2) != 2 || c.Place(4) != -1 || c.Next(4) != -1 || c.Prev(4) != -1 || !c.Has(4) || !c.Has(3) || c.Has(0) {
		t.Error("who is there")
	}
	// The Learner's -1 says that there is none: it is nobody who is there.
	if d := chain(-1, 3); d.Has(-1) || d.Head() != 3 || d.Tail() != 3 || d.Next(3) != -1 || d.Prev(3) != -1 {
		t.Error("a chain of one")
	}
}

func TestWrongConfs(t *testing.T) { // P16.1, P1
	for i, c := range wrongConfs() {
		if c.Head() != -1 || c.Tail() != -1 {
			t.Errorf("%d of the wrong ones: from %d to %d", i, c.Head(), c.Tail())
		}
		for _, node := range nodes() {
			if c.Place(node) != -1 || c.Next(node) != -1 || c.Prev(node) != -1 || c.Has(node) {
				t.Errorf("%d of the wrong ones tells something of %d", i, node)
			}
			for _, epoch := range []uint64{0, 7, 8, math.MaxUint64} {
				for name, e := range refusals(c, node, epoch) {
					if e != api.ErrArg {
						t.Errorf("%d of the wrong ones: %s(%d, %d): %d", i, name, node, epoch, e)
					}
				}
			}
		}
	}
}

// refusals answers the errors of all changes of c; what is told beside an error must be zero.
func refusals(c conf.Conf, node int, epoch uint64) map[string]api.Errno {
	out := map[string]api.Errno{}
	for name, change := range changes() {
		d, e := change(c, node, epoch)
		if e != api.OK && !zero(d) {
			e = -1
		}
		out[name] = e
	}
	return out
}

// changes are all calls that change a configuration; Mark takes no epoch.
func changes() map[string]func(conf.Conf, int, uint64) (conf.Conf, api.Errno) {
	return map[string]func(conf.Conf, int, uint64) (conf.Conf, api.Errno){
		"Remove":  conf.Remove,
		"Learn":   conf.Learn,
		"Promote": conf.Promote,
		"Mark":    func(c conf.Conf, node int, _ uint64) (conf.Conf, api.Errno) { return conf.Mark(c, node) },
	}
}
