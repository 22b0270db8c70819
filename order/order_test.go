package order_test

import (
	"math"
	"slices"
	"testing"

	"sautoir/api"
	"sautoir/conf"
	"sautoir/order"
)

// Setups: of two shards with a spare server, and of one shard with two.
var (
	five = order.Setup{Shards: 2, Length: 2, Servers: 5}
	four = order.Setup{Shards: 1, Length: 2, Servers: 4}
)

// made answers a state behind those commands, which all must be done.
func made(t *testing.T, s order.Setup, l ...order.Cmd) *order.State {
	t.Helper()
	state := order.New(s)
	for _, c := range l {
		if e := state.Apply(put(t, c)); e != api.OK {
			t.Fatalf("Apply of %v = %d", c, e)
		}
	}
	return state
}

// standing answers a configuration, with which members are Full.
func standing(epoch uint64, shard int, chain []int, full []bool, learner int) conf.Conf {
	return conf.Conf{Epoch: epoch, Shard: shard, Chain: chain, Full: full, Learner: learner}
}

// shards are numbers of shards, and of none.
func shards() []int {
	return []int{math.MinInt, -1, 0, 1, 2, 3, 4, 5, 1 << 32, math.MaxInt}
}

// nodes are servers, and numbers that are none.
func nodes() []int {
	return []int{math.MinInt, -1, 0, 1, 2, 3, 4, 5, 6, 7, 8, 9, 1 << 32, math.MaxInt}
}

// expect holds all that s tells against how it must stand.
func expect(t *testing.T, name string, s *order.State, setup order.Setup, n int, counter uint64, want ...conf.Conf) {
	t.Helper()
	if s.Setup() != setup || s.N() != n || s.Counter() != counter {
		t.Fatalf("%s: %v, N %d, counter %d; want %v, %d, %d", name, s.Setup(), s.N(), s.Counter(), setup, n, counter)
	}
	if got := s.Confs(); !slices.EqualFunc(got, want, conf.Same) {
		t.Fatalf("%s: %v; want %v", name, got, want)
	}
	for _, shard := range shards() {
		there := shard >= 0 && shard < len(want)
		c := conf.Conf{}
		if there {
			c = want[shard]
		}
		if got, ok := s.Conf(shard); ok != there || !conf.Same(got, c) {
			t.Fatalf("%s: Conf(%d) = %v, %v; want %v, %v", name, shard, got, ok, c, there)
		}
	}
	for _, node := range nodes() {
		spare := node >= 0 && node < setup.Servers
		for _, c := range want {
			if slices.Contains(c.Chain, node) || c.Learner == node {
				spare = false
			}
		}
		if s.Spare(node) != spare {
			t.Fatalf("%s: Spare(%d) = %v", name, node, !spare)
		}
	}
}

func TestNil(t *testing.T) { // P21.2, P21.3, P1
	var s *order.State
	for _, text := range append(noTexts(), "\x01\x00\x01\x00") {
		if e := s.Apply(text); e != api.ErrNil {
			t.Errorf("Apply(%.40q) = %d", text, e)
		}
	}
	expect(t, "none", s, order.Setup{}, 0, 0)
	if !order.Same(nil, nil) || order.Same(nil, order.New(four)) || order.Same(order.New(four), nil) || order.Same(nil, &order.State{}) {
		t.Error("nil is as another nil one alone")
	}
}

func TestByHand(t *testing.T) { // P1
	s := &order.State{}
	expect(t, "made by hand", s, order.Setup{}, 0, 0)
	if s.Apply("") != api.OK || s.Apply("x") != api.ErrForm || s.Apply("\x01\x00\x01\x00") != api.ErrArg {
		t.Error("made by hand")
	}
	expect(t, "made by hand", s, order.Setup{}, 3, 0)
}

func TestRightSetup(t *testing.T) { // P21.1
	right := 0
	for shards := -2; shards < 8; shards++ {
		for length := -2; length < 12; length++ {
			for servers := -2; servers < 12; servers++ {
				s := order.Setup{Shards: shards, Length: length, Servers: servers}
				want := shards >= 1 && shards <= 4 && length > 0 && servers > 0 && servers <= 8 && shards*length <= servers
				if order.RightSetup(s) != want || (order.New(s) != nil) != want {
					t.Errorf("%v is right: %v", s, !want)
				}
				if want {
					right++
				}
			}
		}
	}
	// Of s shards: as many servers as a multiple of s, or more, up to 8.
	if right != 8+7+6+5+4+3+2+1+7+5+3+1+6+3+5+1 {
		t.Errorf("%d setups are right", right)
	}
}

func TestWrongSetup(t *testing.T) { // P21.1, P1
	ends := []int{math.MinInt, math.MinInt + 1, math.MinInt / 2, -1, 0, 1, 2, 4, 8, 1 << 32, 1 << 61, 1 << 62, 1<<62 + 1, math.MaxInt/2 + 1, math.MaxInt - 1, math.MaxInt}
	for _, shards := range ends {
		for _, length := range ends {
			for _, servers := range ends {
				s := order.Setup{Shards: shards, Length: length, Servers: servers}
				// Counted down, as a product would go round.
				left := servers
				for range max(min(shards, 5), 0) {
					left -= max(min(length, 9), 0)
				}
				want := shards >= 1 && shards <= 4 && length >= 1 && servers >= 1 && servers <= 8 && left >= 0
				if order.RightSetup(s) != want || (order.New(s) != nil) != want {
					t.Errorf("%v is right: %v", s, !want)
				}
			}
		}
	}
}

func TestNew(t *testing.T) { // P21.1, P21.3
	yes := []bool{true, true, true, true, true, true, true, true}
	expect(t, "two shards", order.New(five), five, 0, 2,
		standing(1, 0, []int{0, 1}, yes[:2], -1), standing(2, 1, []int{2, 3}, yes[:2], -1))
	expect(t, "one shard", order.New(four), four, 0, 1, standing(1, 0, []int{0, 1}, yes[:2], -1))
	least := order.Setup{Shards: 1, Length: 1, Servers: 1}
	expect(t, "the least", order.New(least), least, 0, 1, standing(1, 0, []int{0}, yes[:1], -1))
	long := order.Setup{Shards: 1, Length: 8, Servers: 8}
	expect(t, "one long chain", order.New(long), long, 0, 1, standing(1, 0, []int{0, 1, 2, 3, 4, 5, 6, 7}, yes, -1))
	wide := order.Setup{Shards: 4, Length: 2, Servers: 8}
	expect(t, "four shards", order.New(wide), wide, 0, 4,
		standing(1, 0, []int{0, 1}, yes[:2], -1), standing(2, 1, []int{2, 3}, yes[:2], -1),
		standing(3, 2, []int{4, 5}, yes[:2], -1), standing(4, 3, []int{6, 7}, yes[:2], -1))
}

func TestChanges(t *testing.T) { // P21.2, P21.3
	s := order.New(five)
	second := standing(2, 1, []int{2, 3}, []bool{true, true}, -1)
	for i, x := range []struct {
		c       order.Cmd
		counter uint64
		first   conf.Conf
		second  conf.Conf
	}{
		{cmd(order.Learn, 0, 1, 4), 3, standing(3, 0, []int{0, 1}, []bool{true, true}, 4), second},
		{cmd(order.Promote, 0, 3, 4), 4, standing(4, 0, []int{0, 1, 4}, []bool{true, true, false}, -1), second},
		{cmd(order.Mark, 0, 4, 4), 4, standing(4, 0, []int{0, 1, 4}, []bool{true, true, true}, -1), second},
		{cmd(order.Remove, 0, 4, 1), 5, standing(5, 0, []int{0, 4}, []bool{true, true}, -1), second},
		{cmd(order.Learn, 1, 2, 1), 6, standing(5, 0, []int{0, 4}, []bool{true, true}, -1), standing(6, 1, []int{2, 3}, []bool{true, true}, 1)},
		{cmd(order.Remove, 0, 5, 0), 7, standing(7, 0, []int{4}, []bool{true}, -1), standing(6, 1, []int{2, 3}, []bool{true, true}, 1)},
		{cmd(order.Remove, 1, 6, 1), 8, standing(7, 0, []int{4}, []bool{true}, -1), standing(8, 1, []int{2, 3}, []bool{true, true}, -1)},
		{cmd(order.Remove, 1, 8, 3), 9, standing(7, 0, []int{4}, []bool{true}, -1), standing(9, 1, []int{2}, []bool{true}, -1)},
		{cmd(order.Learn, 0, 7, 3), 10, standing(10, 0, []int{4}, []bool{true}, 3), standing(9, 1, []int{2}, []bool{true}, -1)},
	} {
		if e := s.Apply(put(t, x.c)); e != api.OK {
			t.Fatalf("%d: Apply of %v = %d", i, x.c, e)
		}
		expect(t, "behind a change", s, five, i+1, x.counter, x.first, x.second)
	}
}

// TestRefused: the first error that applies is told; but for N, all stays as it was.
func TestRefused(t *testing.T) { // P21.2, P1
	l := []order.Cmd{cmd(order.Learn, 0, 1, 4), cmd(order.Promote, 0, 3, 4), cmd(order.Remove, 1, 2, 3), cmd(order.Learn, 1, 5, 3)}
	s := made(t, five, l...)
	first, second := standing(4, 0, []int{0, 1, 4}, []bool{true, true, false}, -1), standing(6, 1, []int{2}, []bool{true}, 3)
	n := len(l)
	for _, text := range noTexts() {
		want := api.ErrForm
		if text == "" {
			want = api.OK
		}
		n++
		if e := s.Apply(text); e != want {
			t.Errorf("Apply(%.40q) = %d, not %d", text, e, want)
		}
		expect(t, "behind what is no command", s, five, n, 6, first, second)
	}
	for _, x := range []struct {
		c order.Cmd
		e api.Errno
	}{
		{cmd(order.Remove, 2, 4, 0), api.ErrArg},
		{cmd(order.Learn, 3, 4, 0), api.ErrArg},
		{cmd(order.Learn, 0, 4, 5), api.ErrArg},
		{cmd(order.Remove, 0, 4, 7), api.ErrArg},
		{cmd(order.Mark, 2, 9, 5), api.ErrArg},
		{cmd(order.Remove, 0, 9, 5), api.ErrArg}, // ahead of stale
		{cmd(order.Remove, 0, 3, 1), api.ErrStale},
		{cmd(order.Remove, 0, 5, 1), api.ErrStale},
		{cmd(order.Remove, 0, 6, 1), api.ErrStale}, // the other shard's
		{cmd(order.Mark, 0, math.MaxUint64, 4), api.ErrStale},
		{cmd(order.Learn, 0, 1, 3), api.ErrStale},   // ahead of there
		{cmd(order.Promote, 1, 1, 0), api.ErrStale}, // ahead of the change's own
		{cmd(order.Learn, 0, 4, 0), api.ErrThere},
		{cmd(order.Learn, 0, 4, 2), api.ErrThere}, // in another chain
		{cmd(order.Learn, 0, 4, 3), api.ErrThere}, // another one's Learner
		{cmd(order.Learn, 1, 6, 4), api.ErrThere}, // ahead of state
		{cmd(order.Learn, 1, 6, 3), api.ErrThere},
		{cmd(order.Remove, 0, 4, 2), api.ErrNone},
		{cmd(order.Remove, 0, 4, 3), api.ErrNone}, // another one's Learner
		{cmd(order.Remove, 1, 6, 2), api.ErrState},
		{cmd(order.Promote, 0, 4, 4), api.ErrNone},
		{cmd(order.Promote, 0, 4, 3), api.ErrNone}, // another one's Learner
		{cmd(order.Promote, 1, 6, 2), api.ErrNone},
		{cmd(order.Mark, 0, 4, 0), api.ErrThere},
		{cmd(order.Mark, 0, 4, 2), api.ErrNone},
		{cmd(order.Mark, 1, 6, 3), api.ErrNone},
	} {
		n++
		if e := s.Apply(put(t, x.c)); e != x.e {
			t.Errorf("Apply of %v = %d, not %d", x.c, e, x.e)
		}
		expect(t, "behind a refused change", s, five, n, 6, first, second)
	}
	// A spare may not learn where somebody learns; nor may who would leave a head that is not Full go.
	spare := made(t, order.Setup{Shards: 1, Length: 1, Servers: 4}, cmd(order.Learn, 0, 1, 1))
	if e := spare.Apply(put(t, cmd(order.Learn, 0, 2, 2))); e != api.ErrState {
		t.Error("a second Learner", e)
	}
	if e := spare.Apply(put(t, cmd(order.Promote, 0, 2, 1))); e != api.OK {
		t.Error("Promote", e)
	}
	if e := spare.Apply(put(t, cmd(order.Remove, 0, 3, 0))); e != api.ErrState {
		t.Error("a head that is not Full", e)
	}
}

// TestCounterAtItsEnd: no epoch is left for a change, but a Mark needs none.
func TestCounterAtItsEnd(t *testing.T) { // P21.2
	s := made(t, four, cmd(order.Learn, 0, 1, 2), cmd(order.Promote, 0, 2, 2), cmd(order.Learn, 0, 3, 3))
	before := standing(4, 0, []int{0, 1, 2}, []bool{true, true, false}, 3)
	last := order.At(s, math.MaxUint64)
	for i, x := range []struct {
		c order.Cmd
		e api.Errno
	}{
		{cmd(order.Remove, 0, 4, 1), api.ErrFull},
		{cmd(order.Remove, 0, 4, 3), api.ErrFull},
		{cmd(order.Promote, 0, 4, 3), api.ErrFull},
		{cmd(order.Learn, 0, 4, 3), api.ErrFull}, // ahead of there
		{cmd(order.Promote, 0, 4, 0), api.ErrFull},
		{cmd(order.Remove, 0, 3, 1), api.ErrStale},
		{cmd(order.Learn, 0, 4, 4), api.ErrArg},
		{cmd(order.Mark, 0, 4, 0), api.ErrThere},
		{cmd(order.Mark, 0, 4, 3), api.ErrNone},
	} {
		if e := last.Apply(put(t, x.c)); e != x.e {
			t.Errorf("Apply of %v = %d, not %d", x.c, e, x.e)
		}
		expect(t, "at the end", last, four, 3+i+1, math.MaxUint64, before)
	}
	marked := standing(4, 0, []int{0, 1, 2}, []bool{true, true, true}, 3)
	if e := last.Apply(put(t, cmd(order.Mark, 0, 4, 2))); e != api.OK {
		t.Error("Mark at the end:", e)
	}
	expect(t, "marked at the end", last, four, 13, math.MaxUint64, marked)
	expect(t, "the one that was copied", s, four, 3, 4, before)
	one := order.At(s, math.MaxUint64-1)
	if e := one.Apply(put(t, cmd(order.Promote, 0, 4, 3))); e != api.OK {
		t.Error("the last change:", e)
	}
	expect(t, "behind the last change", one, four, 4, math.MaxUint64, standing(math.MaxUint64, 0, []int{0, 1, 2, 3}, []bool{true, true, false, false}, -1))
}

// differing are states of which no two are the same, and each differs from the first one in one thing alone.
func differing(t *testing.T) []*order.State {
	more := order.Setup{Shards: 1, Length: 2, Servers: 5}
	long := order.Setup{Shards: 1, Length: 1, Servers: 4}
	learns := made(t, four, cmd(order.Learn, 0, 1, 2))
	other := made(t, four, cmd(order.Learn, 0, 1, 3))
	applied := made(t, four, cmd(order.Learn, 0, 1, 2))
	applied.Apply("")
	return []*order.State{
		learns, other, applied, order.At(learns, 9), made(t, more, cmd(order.Learn, 0, 1, 2)), made(t, long, cmd(order.Learn, 0, 1, 2)),
		made(t, four, cmd(order.Remove, 0, 1, 1)), order.New(four), order.New(more), order.New(five), {},
	}
}

func TestSame(t *testing.T) { // P21.3
	for i, a := range differing(t) {
		for k, b := range differing(t) {
			if order.Same(a, b) != (i == k) {
				t.Errorf("%d and %d are the same: %v", i, k, i != k)
			}
		}
		if !order.Same(a, a) || order.Same(a, nil) || order.Same(nil, a) {
			t.Errorf("%d beside itself, and nil", i)
		}
	}
}

// TestMemory: what is answered shares no memory with the state, nor with another answer.
func TestMemory(t *testing.T) { // P21.3 (rule 4)
	s := made(t, five, cmd(order.Learn, 0, 1, 4))
	want := []conf.Conf{standing(3, 0, []int{0, 1}, []bool{true, true}, 4), standing(2, 1, []int{2, 3}, []bool{true, true}, -1)}
	one, other := s.Confs(), s.Confs()
	c, _ := s.Conf(0)
	for _, d := range append(one, c) {
		d.Chain[0], d.Full[1] = 7, false
		_ = append(d.Chain, 9)
		_ = append(d.Full, false)
	}
	one[1] = conf.Conf{}
	if !slices.EqualFunc(other, want, conf.Same) {
		t.Error("two answers share memory")
	}
	expect(t, "behind changed answers", s, five, 1, 3, want...)
	// What was told ahead of a change stays as it was told.
	s.Apply(put(t, cmd(order.Remove, 0, 3, 0)))
	s.Apply(put(t, cmd(order.Remove, 0, 4, 4)))
	if !slices.EqualFunc(other, want, conf.Same) {
		t.Error("a change is seen in what was told ahead of it")
	}
}
