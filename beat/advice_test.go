package beat_test

import (
	"math"
	"testing"

	"sautoir/api"
	"sautoir/beat"
	"sautoir/order"
)

// Setups: one shard of three servers with three spares, and two shards of two with two spares.
var (
	one = order.Setup{Shards: 1, Length: 3, Servers: 6}
	two = order.Setup{Shards: 2, Length: 2, Servers: 6}
)

// nothing is what is advised when there is nothing.
var nothing = order.Cmd{}

func cmd(kind, shard int, epoch uint64, node int) order.Cmd {
	return order.Cmd{Kind: kind, Shard: shard, Epoch: epoch, Node: node}
}

// do applies c, and tells what came of it.
func do(t *testing.T, s *order.State, c order.Cmd) api.Errno {
	t.Helper()
	text, e := order.Put(c)
	if e != api.OK {
		t.Fatalf("%v is no command", c)
	}
	return s.Apply(text)
}

// made answers a state behind those commands, which all must be done.
func made(t *testing.T, s order.Setup, l ...order.Cmd) *order.State {
	t.Helper()
	state := order.New(s)
	for _, c := range l {
		if e := do(t, state, c); e != api.OK {
			t.Fatalf("Apply of %v = %d", c, e)
		}
	}
	return state
}

// watching answers a watch that suspects all servers but those that are heard, each with its report.
func watching(t *testing.T, heard map[int]beat.Report) *beat.Watch {
	t.Helper()
	w := beat.New(2)
	tick(w, 3)
	for node, r := range heard {
		hear(t, w, node, r)
	}
	return w
}

// quiet answers reports of those servers that say nothing of any shard.
func quiet(l ...int) map[int]beat.Report {
	out := map[int]beat.Report{}
	for _, node := range l {
		out[node] = beat.Report{Synced: -1}
	}
	return out
}

// with answers heard, and node's report beside it.
func with(heard map[int]beat.Report, node int, r beat.Report) map[int]beat.Report {
	heard[node] = r
	return heard
}

func full(shard int, epoch uint64) beat.Report {
	return beat.Report{Shard: shard, Epoch: epoch, Full: true, Synced: -1}
}

func synced(shard int, epoch uint64, node int) beat.Report {
	return beat.Report{Shard: shard, Epoch: epoch, Synced: node}
}

// advised is a state, who was heard with what report, and what is to be advised then.
type advised struct {
	name  string
	s     *order.State
	heard map[int]beat.Report
	want  order.Cmd
}

// expectAdvised holds what is advised against what is to be, and that it changes the order.
func expectAdvised(t *testing.T, l []advised) {
	t.Helper()
	for _, x := range l {
		w := watching(t, x.heard)
		for range 2 {
			if c, ok := beat.Advice(x.s, w); c != x.want || ok != (x.want != nothing) {
				t.Errorf("%s: %v, %v; want %v", x.name, c, ok, x.want)
			}
		}
		if x.want == nothing {
			continue
		}
		if e := do(t, x.s, x.want); e != api.OK {
			t.Errorf("%s: %v is no change: %d", x.name, x.want, e)
		}
	}
}

func TestExample(t *testing.T) { // P22.2
	s, w := made(t, one), beat.New(2)
	for range 3 {
		w.Tick()
		hear(t, w, 0, full(0, 1))
		hear(t, w, 2, full(0, 1))
	}
	if c, ok := beat.Advice(s, w); !ok || c != cmd(order.Remove, 0, 1, 1) {
		t.Error("the chapter's example", c, ok)
	}
}

func TestAdviseRemove(t *testing.T) { // P22.2, P22.3
	learns := func() *order.State { return made(t, one, cmd(order.Learn, 0, 1, 4)) }
	// 0 and 2 are Full, 4 behind them is not.
	grown := func() *order.State {
		return made(t, one, cmd(order.Learn, 0, 1, 4), cmd(order.Promote, 0, 2, 4), cmd(order.Remove, 0, 3, 1))
	}
	// 0 is Full, 4 and 5 behind it are not.
	young := func() *order.State {
		return made(t, one, cmd(order.Remove, 0, 1, 1), cmd(order.Remove, 0, 2, 2), cmd(order.Learn, 0, 3, 4), cmd(order.Promote, 0, 4, 4), cmd(order.Learn, 0, 5, 5), cmd(order.Promote, 0, 6, 5))
	}
	expectAdvised(t, []advised{
		{"all was heard", made(t, one), quiet(0, 1, 2), nothing},
		{"the Learner", learns(), quiet(0, 1, 2), cmd(order.Remove, 0, 2, 4)},
		{"the Learner ahead of a member", learns(), quiet(2), cmd(order.Remove, 0, 2, 4)},
		{"a member beside a Learner", learns(), quiet(0, 2, 4), cmd(order.Remove, 0, 2, 1)},
		{"the head", made(t, one), quiet(1, 2), cmd(order.Remove, 0, 1, 0)},
		{"the tail", made(t, one), quiet(0, 1), cmd(order.Remove, 0, 1, 2)},
		{"the first one", made(t, one), quiet(0), cmd(order.Remove, 0, 1, 1)},
		{"the first one of all", made(t, one), nil, cmd(order.Remove, 0, 1, 0)},
		{"the first one in the chain's order", grown(), quiet(0), cmd(order.Remove, 0, 4, 2)},
		{"the head ahead of one that is Full", grown(), quiet(2, 4), cmd(order.Remove, 0, 4, 0)},
		{"the only one", made(t, one, cmd(order.Remove, 0, 1, 1), cmd(order.Remove, 0, 2, 2)), nil, nothing},
		{"the head ahead of one that is not Full", young(), quiet(4, 5), nothing},
		{"not the head, who can't be removed, but the next one", young(), quiet(5), cmd(order.Remove, 0, 7, 4)},
		{"not the head, who can't be removed, but the tail", young(), quiet(4), cmd(order.Remove, 0, 7, 5)},
		{"a spare", made(t, one), quiet(0, 1, 2, 3), nothing},
	})
}

func TestAdviseMark(t *testing.T) { // P22.2, P22.3
	// 0 is Full, 4 and 3 behind it are not; the configuration is of epoch 7.
	young := func() *order.State {
		return made(t, one, cmd(order.Remove, 0, 1, 1), cmd(order.Remove, 0, 2, 2), cmd(order.Learn, 0, 3, 4), cmd(order.Promote, 0, 4, 4), cmd(order.Learn, 0, 5, 3), cmd(order.Promote, 0, 6, 3))
	}
	beside := func() map[int]beat.Report { return quiet(0, 3, 4) }
	expectAdvised(t, []advised{
		{"nobody says it", young(), beside(), nothing},
		{"the one in the middle", young(), with(beside(), 4, full(0, 7)), cmd(order.Mark, 0, 7, 4)},
		{"the tail", young(), with(beside(), 3, full(0, 7)), cmd(order.Mark, 0, 7, 3)},
		{"the first one in the chain's order", young(), with(with(beside(), 3, full(0, 7)), 4, full(0, 7)), cmd(order.Mark, 0, 7, 4)},
		{"who is Full already", young(), with(beside(), 0, full(0, 7)), nothing},
		{"who is no member", young(), with(beside(), 5, full(0, 7)), nothing},
		{"an elder epoch", young(), with(beside(), 4, full(0, 6)), nothing},
		{"a later epoch", young(), with(beside(), 4, full(0, 8)), nothing},
		{"another shard", young(), with(beside(), 4, full(1, 7)), nothing},
		{"no shard", young(), with(beside(), 4, full(-1, 7)), nothing},
		{"it says that it is not", young(), with(beside(), 4, synced(0, 7, 4)), nothing},
		{"beside other news", young(), with(beside(), 4, beat.Report{Epoch: 7, Full: true, Synced: 5}), cmd(order.Mark, 0, 7, 4)},
		{"behind a Remove", young(), with(quiet(0, 4), 4, full(0, 7)), cmd(order.Remove, 0, 7, 3)},
	})
	// A report is kept, however long ago it was: who is suspected, and can't be removed, keeps nobody back.
	s, w := young(), beat.New(2)
	hear(t, w, 4, full(0, 7))
	tick(w, 3)
	hear(t, w, 3, full(0, 7))
	if c, ok := beat.Advice(s, w); !ok || c != cmd(order.Remove, 0, 7, 4) {
		t.Error("who is suspected, and said so", c, ok)
	}
	hear(t, w, 4, full(0, 7))
	if c, ok := beat.Advice(s, w); !ok || c != cmd(order.Mark, 0, 7, 4) {
		t.Error("behind a head that is suspected", c, ok)
	}
}

func TestAdvisePromote(t *testing.T) { // P22.2, P22.3
	// 0, 1, 2 are all Full, 4 learns; the configuration is of epoch 2.
	learns := func() *order.State { return made(t, one, cmd(order.Learn, 0, 1, 4)) }
	beside := func() map[int]beat.Report { return quiet(0, 1, 2, 3, 4, 5) }
	short := func() *order.State {
		return made(t, one, cmd(order.Remove, 0, 1, 1), cmd(order.Learn, 0, 2, 5), cmd(order.Promote, 0, 3, 5), cmd(order.Learn, 0, 4, 1))
	}
	expectAdvised(t, []advised{
		{"nobody says it", learns(), beside(), nothing},
		{"the tail says it", learns(), with(beside(), 2, synced(0, 2, 4)), cmd(order.Promote, 0, 2, 4)},
		{"another member says it", learns(), with(beside(), 1, synced(0, 2, 4)), nothing},
		{"the head says it", learns(), with(beside(), 0, synced(0, 2, 4)), nothing},
		{"the Learner says it", learns(), with(beside(), 4, synced(0, 2, 4)), nothing},
		{"of another one", learns(), with(beside(), 2, synced(0, 2, 5)), nothing},
		{"of nobody", learns(), with(beside(), 2, synced(0, 2, -1)), nothing},
		{"an elder epoch", learns(), with(beside(), 2, synced(0, 1, 4)), nothing},
		{"a later epoch", learns(), with(beside(), 2, synced(0, 3, 4)), nothing},
		{"another shard", learns(), with(beside(), 2, synced(1, 2, 4)), nothing},
		{"no shard", learns(), with(beside(), 2, synced(-1, 2, 4)), nothing},
		{"a tail that was promoted itself", short(), with(beside(), 5, synced(0, 5, 1)), cmd(order.Promote, 0, 5, 1)},
		{"a Mark ahead of it", short(), with(beside(), 5, beat.Report{Epoch: 5, Full: true, Synced: 1}), cmd(order.Mark, 0, 5, 5)},
		{"a Remove ahead of it", learns(), with(quiet(0, 2, 4), 2, synced(0, 2, 4)), cmd(order.Remove, 0, 2, 1)},
		{"the Learner is suspected", learns(), with(quiet(0, 1, 2), 2, synced(0, 2, 4)), cmd(order.Remove, 0, 2, 4)},
		// No Learner, and a tail that saw nobody: -1 stands for both, and is no server.
		{"none", made(t, one), with(beside(), 2, synced(0, 1, -1)), nothing},
		{"none, and one who was a Learner", made(t, one), with(beside(), 2, synced(0, 1, 4)), nothing},
	})
}

func TestAdviseLearn(t *testing.T) { // P22.2, P22.3
	// 0 and 2 are left of three; the configuration is of epoch 2.
	short := func() *order.State { return made(t, one, cmd(order.Remove, 0, 1, 1)) }
	expectAdvised(t, []advised{
		{"nobody was heard", short(), quiet(0, 2), nothing},
		{"the least one", short(), quiet(0, 2, 3, 4, 5), cmd(order.Learn, 0, 2, 3)},
		{"who was removed", short(), quiet(0, 1, 2, 3), cmd(order.Learn, 0, 2, 1)},
		{"the last one", short(), quiet(0, 2, 5), cmd(order.Learn, 0, 2, 5)},
		{"who is none of the servers", short(), quiet(0, 2, 6, 7), nothing},
		{"whatever it reported", short(), with(quiet(0, 2), 4, beat.Report{Shard: -7, Epoch: math.MaxUint64, Full: true, Synced: 99}), cmd(order.Learn, 0, 2, 4)},
		{"a chain that is long enough", made(t, one), quiet(0, 1, 2, 3, 4, 5), nothing},
		{"somebody learns", made(t, one, cmd(order.Remove, 0, 1, 1), cmd(order.Learn, 0, 2, 3)), quiet(0, 2, 3, 4), nothing},
		{"two are missing", made(t, one, cmd(order.Remove, 0, 1, 1), cmd(order.Remove, 0, 2, 0)), quiet(2, 0), cmd(order.Learn, 0, 3, 0)},
		{"a head that can't be removed", made(t, one, cmd(order.Remove, 0, 1, 1), cmd(order.Remove, 0, 2, 0)), quiet(4), cmd(order.Learn, 0, 3, 4)},
		{"a Promote ahead of it", made(t, one, cmd(order.Remove, 0, 1, 1), cmd(order.Learn, 0, 2, 3)), with(quiet(0, 2, 3, 4), 2, synced(0, 3, 3)), cmd(order.Promote, 0, 3, 3)},
		{"a Remove ahead of it", short(), quiet(0, 3), cmd(order.Remove, 0, 2, 2)},
		{"a Mark ahead of it", made(t, one, cmd(order.Learn, 0, 1, 3), cmd(order.Promote, 0, 2, 3), cmd(order.Remove, 0, 3, 1), cmd(order.Remove, 0, 4, 2)), with(quiet(0, 1), 3, full(0, 5)), cmd(order.Mark, 0, 5, 3)},
	})
	// Nobody is suspected at first, but who was never heard has no report.
	w := beat.New(2)
	if c, ok := beat.Advice(short(), w); ok {
		t.Error("nobody was ever heard", c)
	}
	hear(t, w, 5, beat.Report{})
	if c, ok := beat.Advice(short(), w); !ok || c != cmd(order.Learn, 0, 2, 5) {
		t.Error("one was heard", c, ok)
	}
	// Who was heard too long ago has a report, and is suspected.
	for range 3 {
		w.Tick()
		hear(t, w, 0, beat.Report{})
		hear(t, w, 2, beat.Report{})
	}
	if c, ok := beat.Advice(short(), w); ok {
		t.Error("the one is suspected", c)
	}
}

func TestAdviseShards(t *testing.T) { // P22.2, P22.3
	// Shard 0 has 0 alone, shard 1 has 3 alone; 1, 2, 4 and 5 are spares.
	short := func() *order.State { return made(t, two, cmd(order.Remove, 0, 1, 1), cmd(order.Remove, 1, 2, 2)) }
	expectAdvised(t, []advised{
		{"all was heard", made(t, two), quiet(0, 1, 2, 3), nothing},
		{"the first shard", made(t, two), quiet(0, 3), cmd(order.Remove, 0, 1, 1)},
		{"the second shard", made(t, two), quiet(0, 1, 2), cmd(order.Remove, 1, 2, 3)},
		// What is last of the first shard is ahead of what is first of the second one.
		{"shard by shard", made(t, two, cmd(order.Remove, 0, 1, 1)), quiet(0, 2, 4), cmd(order.Learn, 0, 3, 4)},
		{"the second one, as the first one can't", short(), with(quiet(0, 3, 4), 3, full(1, 4)), cmd(order.Learn, 0, 3, 4)},
		{"the first one has a Learner", made(t, two, cmd(order.Remove, 0, 1, 1), cmd(order.Remove, 1, 2, 2), cmd(order.Learn, 0, 3, 4)), quiet(0, 3, 4, 5), cmd(order.Learn, 1, 4, 5)},
		{"of the other shard's Learner", made(t, two, cmd(order.Learn, 0, 1, 4), cmd(order.Learn, 1, 2, 5)), with(quiet(0, 1, 2, 3, 4, 5), 3, synced(1, 4, 4)), nothing},
		{"the second shard's Learner", made(t, two, cmd(order.Learn, 0, 1, 4), cmd(order.Learn, 1, 2, 5)), with(quiet(0, 1, 2, 3, 4, 5), 3, synced(1, 4, 5)), cmd(order.Promote, 1, 4, 5)},
		{"the second shard's new member", made(t, two, cmd(order.Learn, 1, 2, 5), cmd(order.Promote, 1, 3, 5)), with(quiet(0, 1, 2, 3, 5), 5, full(1, 4)), cmd(order.Mark, 1, 4, 5)},
	})
}

// TestAdviceChangesNothing: it is asked for, not done.
func TestAdviceChangesNothing(t *testing.T) { // P22.2
	s, beside := made(t, two), made(t, two)
	w := watching(t, quiet(0, 3))
	beat.Advice(s, w)
	m := &model{limit: 2, now: 3, at: map[int]int{0: 3, 3: 3}, said: quiet(0, 3)}
	expect(t, "behind an advice", w, m)
	if !order.Same(s, beside) {
		t.Error("an advice changes the order")
	}
}
