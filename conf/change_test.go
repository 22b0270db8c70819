package conf_test

import (
	"math"
	"math/rand"
	"slices"
	"testing"

	"sautoir/api"
	"sautoir/conf"
)

// expect holds what a change answered against what the chapter asks; the epoch of want is given.
func expect(t *testing.T, name string, got conf.Conf, e api.Errno, want conf.Conf, wantError api.Errno) {
	t.Helper()
	if wantError != api.OK {
		want = conf.Conf{}
	}
	if e != wantError || !conf.Same(got, want) {
		t.Errorf("%s: %v, %d, not %v, %d", name, got, e, want, wantError)
	}
}

// in answers c in that epoch.
func in(epoch uint64, c conf.Conf) conf.Conf {
	c.Epoch = epoch
	return c
}

func TestExample(t *testing.T) { // P16.2
	c := partly(chain(-1, 3, 1, 2), 3, 1)
	d, e := conf.Remove(c, 3, 8)
	expect(t, "without 3", d, e, in(8, partly(chain(-1, 1, 2), 1)), api.OK)
	f, e := conf.Remove(d, 1, 9)
	expect(t, "without 1", f, e, conf.Conf{}, api.ErrState)
	f, e = conf.Remove(d, 2, 9)
	expect(t, "without 2", f, e, in(9, chain(-1, 1)), api.OK)
}

func TestRemove(t *testing.T) { // P16.2
	c := partly(chain(4, 3, 1, 2), 3, 2)
	for _, x := range []struct {
		name string
		c    conf.Conf
		node int
		want conf.Conf
		e    api.Errno
	}{
		{"the Learner", c, 4, partly(chain(-1, 3, 1, 2), 3, 2), api.OK},
		{"nobody", c, 5, conf.Conf{}, api.ErrNone},
		{"nobody, no Learner", chain(-1, 3), 4, conf.Conf{}, api.ErrNone},
		{"the only one", chain(-1, 3), 3, conf.Conf{}, api.ErrState},
		{"the only one ahead of a Learner", chain(4, 3), 3, conf.Conf{}, api.ErrState},
		{"the Learner of the only one", chain(4, 3), 4, chain(-1, 3), api.OK},
		{"the head ahead of one that is not Full", c, 3, conf.Conf{}, api.ErrState},
		{"the head ahead of two that are not Full", partly(chain(4, 3, 1, 2), 3), 3, conf.Conf{}, api.ErrState},
		{"the head", partly(chain(4, 3, 1, 2), 3, 1), 3, partly(chain(4, 1, 2), 1), api.OK},
		{"one in the middle", c, 1, chain(4, 3, 2), api.OK},
		{"the tail", c, 2, partly(chain(4, 3, 1), 3), api.OK},
		{"one of eight", chain(-1, 7, 6, 5, 4, 3, 2, 1, 0), 4, chain(-1, 7, 6, 5, 3, 2, 1, 0), api.OK},
	} {
		got, e := conf.Remove(x.c, x.node, 9)
		expect(t, x.name, got, e, in(9, x.want), x.e)
	}
}

func TestLearn(t *testing.T) { // P16.2
	half := partly(chain(-1, 3, 1), 3)
	for _, x := range []struct {
		name string
		c    conf.Conf
		node int
		want conf.Conf
		e    api.Errno
	}{
		{"one more", half, 7, partly(chain(7, 3, 1), 3), api.OK},
		{"the first server", half, 0, partly(chain(0, 3, 1), 3), api.OK},
		{"the head", half, 3, conf.Conf{}, api.ErrThere},
		{"the tail", half, 1, conf.Conf{}, api.ErrThere},
		{"another Learner", chain(4, 3, 1), 5, conf.Conf{}, api.ErrState},
		{"the Learner", chain(4, 3, 1), 4, conf.Conf{}, api.ErrThere},
		{"a member beside a Learner", chain(4, 3, 1), 3, conf.Conf{}, api.ErrThere},
	} {
		got, e := conf.Learn(x.c, x.node, 8)
		expect(t, x.name, got, e, in(8, x.want), x.e)
	}
}

func TestPromote(t *testing.T) { // P16.2
	for _, x := range []struct {
		name string
		c    conf.Conf
		node int
		want conf.Conf
		e    api.Errno
	}{
		{"the Learner", chain(4, 3, 1, 2), 4, partly(chain(-1, 3, 1, 2, 4), 3, 1, 2), api.OK},
		{"the Learner of one", chain(4, 3), 4, partly(chain(-1, 3, 4), 3), api.OK},
		{"the eighth one", chain(0, 1, 2, 3, 4, 5, 6, 7), 0, partly(chain(-1, 1, 2, 3, 4, 5, 6, 7, 0), 1, 2, 3, 4, 5, 6, 7), api.OK},
		{"a member", chain(4, 3, 1), 3, conf.Conf{}, api.ErrNone},
		{"nobody", chain(4, 3, 1), 5, conf.Conf{}, api.ErrNone},
		{"nobody, no Learner", chain(-1, 3, 1), 4, conf.Conf{}, api.ErrNone},
	} {
		got, e := conf.Promote(x.c, x.node, math.MaxUint64)
		expect(t, x.name, got, e, in(math.MaxUint64, x.want), x.e)
	}
}

func TestMark(t *testing.T) { // P16.2
	c := partly(chain(4, 3, 1, 2), 3)
	for _, x := range []struct {
		name string
		node int
		want conf.Conf
		e    api.Errno
	}{
		{"the second one", 1, partly(chain(4, 3, 1, 2), 3, 1), api.OK},
		{"the tail", 2, partly(chain(4, 3, 1, 2), 3, 2), api.OK},
		{"the head", 3, conf.Conf{}, api.ErrThere},
		{"the Learner", 4, conf.Conf{}, api.ErrNone},
		{"nobody", 0, conf.Conf{}, api.ErrNone},
		{"no server", -1, conf.Conf{}, api.ErrArg},
		{"no server", 8, conf.Conf{}, api.ErrArg},
		{"no server", math.MinInt, conf.Conf{}, api.ErrArg},
		{"no server", math.MaxInt, conf.Conf{}, api.ErrArg},
	} {
		got, e := conf.Mark(c, x.node)
		expect(t, x.name, got, e, x.want, x.e)
	}
	last := in(math.MaxUint64, c)
	got, e := conf.Mark(last, 2)
	expect(t, "in the last epoch", got, e, in(math.MaxUint64, partly(c, 3, 2)), api.OK)
}

// What may not be is told ahead of all else.
func TestChangeRefused(t *testing.T) { // P16.2, P1
	for _, c := range rightConfs() {
		for _, node := range nodes() {
			for _, epoch := range []uint64{0, 1, c.Epoch - 1, c.Epoch} {
				for name, e := range refusals(c, node, epoch) {
					if e != api.ErrArg && name != "Mark" {
						t.Errorf("%v: %s(%d, %d): %d", c, name, node, epoch, e)
					}
				}
			}
			if isServer(node) {
				continue
			}
			for name, e := range refusals(c, node, math.MaxUint64) {
				if e != api.ErrArg {
					t.Errorf("%v: %s(%d): %d", c, name, node, e)
				}
			}
		}
	}
}

// TestChangeMemory: a change touches no list that it is given, and its answer has lists of its own.
func TestChangeMemory(t *testing.T) { // P16.2 (rules 4 and 5)
	c := partly(chain(4, 3, 1, 2), 3, 1)
	// Room behind the lists, in which an answer must not be put.
	c.Chain, c.Full = append(make([]int, 0, 20), c.Chain...), append(make([]bool, 0, 20), c.Full...)
	before := clone(c)
	behind := func() []int { return c.Chain[3:6] }
	for name, x := range map[string]struct {
		change string
		node   int
	}{
		"the head removed": {"Remove", 3}, "the tail removed": {"Remove", 2}, "the Learner removed": {"Remove", 4},
		"promoted": {"Promote", 4}, "marked": {"Mark", 2},
	} {
		change := changes()[x.change]
		one, e := change(c, x.node, 8)
		two, f := change(c, x.node, 8)
		if e != api.OK || f != api.OK || !conf.Same(one, two) {
			t.Fatalf("%s: %d, %d", name, e, f)
		}
		want := clone(two)
		spoil(one)
		if !conf.Same(c, before) || !slices.Equal(behind(), make([]int, 3)) || !conf.Same(two, want) {
			t.Errorf("%s: memory is shared", name)
		}
	}
	free := with(c, func(c *conf.Conf) { c.Learner = -1 })
	d, _ := conf.Learn(free, 5, 8)
	spoil(d)
	if !conf.Same(free, with(before, func(c *conf.Conf) { c.Learner = -1 })) {
		t.Error("Learn: memory is shared")
	}
}

// spoil writes into all lists of c, and behind them.
func spoil(c conf.Conf) {
	for i := range c.Chain {
		c.Chain[i], c.Full[i] = 77, !c.Full[i]
	}
	_ = append(c.Chain, 78)
	_ = append(c.Full, true)
}

// rising tells whether those of l that are in of stand there in the same order.
func rising(l, of []int) bool {
	last := -1
	for _, node := range l {
		i := place(of, node)
		if i >= 0 && i <= last {
			return false
		}
		last = max(last, i)
	}
	return true
}

// TestChain changes configurations again and again: whatever is done, they stay right.
func TestChain(t *testing.T) { // P16.4, P16.2
	r := rand.New(rand.NewSource(4))
	names := []string{"Remove", "Learn", "Promote", "Mark"}
	done := map[string]int{}
	for range 200 {
		c := randomConf(r)
		for range 100 {
			name := names[r.Intn(len(names))]
			node, epoch := r.Intn(api.MaxServers+2)-1, c.Epoch+uint64(r.Intn(3))
			d, e := changes()[name](c, node, epoch)
			if e != api.OK {
				if !zero(d) {
					t.Fatalf("%s is refused with %v", name, d)
				}
				continue
			}
			done[name]++
			expectFollows(t, c, d)
			if name == "Mark" {
				epoch = c.Epoch
			}
			if d.Epoch != epoch || d.Shard != c.Shard {
				t.Fatalf("%s(%d, %d) of %v: %v", name, node, epoch, c, d)
			}
			c = d
		}
	}
	for _, name := range names {
		if done[name] < 100 {
			t.Errorf("%s was done %d times: too few to try it", name, done[name])
		}
	}
}

// expectFollows holds what is promised of d, a change of c.
func expectFollows(t *testing.T, c, d conf.Conf) {
	t.Helper()
	if !conf.Right(d) {
		t.Fatalf("%v became %v, which is not right", c, d)
	}
	if !d.Full[0] || c.Place(d.Head()) < 0 {
		t.Errorf("%v became %v: who heads it was no member", c, d)
	}
	if !rising(d.Chain, c.Chain) {
		t.Errorf("%v became %v: in another order", c, d)
	}
	// Nobody becomes Full, or ceases to be, by the way: at most one truth is another one.
	other := 0
	for i, node := range d.Chain {
		if was := c.Place(node); was >= 0 && c.Full[was] != d.Full[i] {
			other++
		}
	}
	if other > 1 || other == 1 && len(c.Chain) != len(d.Chain) {
		t.Errorf("%v became %v: others are Full", c, d)
	}
}
