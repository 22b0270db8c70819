package beat_test

import (
	"math/rand"
	"slices"
	"testing"

	"sautoir/api"
	"sautoir/beat"
	"sautoir/conf"
	"sautoir/order"
)

// plainAdvice is the advice once more, by the chapter's words alone.
func plainAdvice(s *order.State, m *model) (order.Cmd, bool) {
	for _, c := range s.Confs() {
		kind, node := plainShard(s, m, c)
		if kind != 0 {
			return order.Cmd{Kind: kind, Shard: c.Shard, Epoch: c.Epoch, Node: node}, true
		}
	}
	return nothing, false
}

func plainShard(s *order.State, m *model, c conf.Conf) (kind, node int) {
	if c.Learner >= 0 && m.suspects(c.Learner) {
		return order.Remove, c.Learner
	}
	for i, node := range c.Chain {
		may := i > 0 || len(c.Chain) > 1 && c.Full[1]
		if may && m.suspects(node) {
			return order.Remove, node
		}
	}
	for i, node := range c.Chain {
		x, there := m.said[node]
		if there && !c.Full[i] && x.Full && x.Shard == c.Shard && x.Epoch == c.Epoch {
			return order.Mark, node
		}
	}
	x, there := m.said[c.Chain[len(c.Chain)-1]]
	if c.Learner >= 0 {
		if there && x.Shard == c.Shard && x.Epoch == c.Epoch && x.Synced == c.Learner {
			return order.Promote, c.Learner
		}
		return 0, 0
	}
	for node := range s.Setup().Servers {
		_, there := m.said[node]
		if len(c.Chain) < s.Setup().Length && there && !m.suspects(node) && !inAny(s, node) {
			return order.Learn, node
		}
	}
	return 0, 0
}

func inAny(s *order.State, node int) bool {
	return slices.ContainsFunc(s.Confs(), func(c conf.Conf) bool { return c.Learner == node || slices.Contains(c.Chain, node) })
}

// randomReport answers one that most often is of the configuration that node is in.
func randomReport(r *rand.Rand, s *order.State, node int) beat.Report {
	x := beat.Report{Shard: r.Intn(5) - 1, Epoch: uint64(r.Intn(6)), Full: r.Intn(2) == 0, Synced: r.Intn(api.MaxServers+1) - 1}
	for _, c := range s.Confs() {
		if r.Intn(8) > 0 && (c.Learner == node || slices.Contains(c.Chain, node)) {
			x.Shard, x.Epoch = c.Shard, c.Epoch
			if r.Intn(3) > 0 {
				x.Synced = c.Learner
			}
		}
	}
	return x
}

// randomSetup answers one that is right.
func randomSetup(r *rand.Rand) order.Setup {
	s := order.Setup{Shards: 1 + r.Intn(api.MaxShards)}
	s.Length = 1 + r.Intn(api.MaxServers/s.Shards)
	s.Servers = s.Shards*s.Length + r.Intn(api.MaxServers-s.Shards*s.Length+1)
	return s
}

// live has servers come and go for a while; what is advised is done at once.
func live(t *testing.T, r *rand.Rand, done map[int]int) {
	t.Helper()
	s := order.New(randomSetup(r))
	limit := 1 + r.Intn(3)
	w, m := beat.New(limit), &model{limit: limit, at: map[int]int{}, said: map[int]beat.Report{}}
	for range 60 {
		away := r.Intn(1 << api.MaxServers)
		for range 1 + r.Intn(3) {
			w.Tick()
			m.now++
			for node := range api.MaxServers {
				if away>>node&1 == 0 || r.Intn(6) == 0 {
					x := randomReport(r, s, node)
					hear(t, w, node, x)
					m.at[node], m.said[node] = m.now, x
				}
			}
		}
		want, ok := plainAdvice(s, m)
		c, got := beat.Advice(s, w)
		if c != want || got != ok {
			t.Fatalf("%v, of %v, %v: %v, %v; want %v, %v", s.Confs(), m.said, m.at, c, got, want, ok)
		}
		if !got {
			continue
		}
		done[c.Kind]++
		expectChange(t, s, m, c)
	}
}

// expectChange applies c, which is advised: it changes the order, and takes nobody out who was heard within the limit.
func expectChange(t *testing.T, s *order.State, m *model, c order.Cmd) {
	t.Helper()
	before := s.Confs()
	if e := do(t, s, c); e != api.OK {
		t.Fatalf("%v: %v is advised, and tells %d", before, c, e)
	}
	if slices.EqualFunc(before, s.Confs(), conf.Same) {
		t.Fatalf("%v: %v is advised, and changes nothing", before, c)
	}
	if c.Kind == order.Remove && m.now-m.at[c.Node] <= m.limit {
		t.Fatalf("%v: %v is advised of one that was heard", before, c)
	}
}

// TestAlways has what is advised done again and again.
func TestAlways(t *testing.T) { // P22.3, P22.2
	r := rand.New(rand.NewSource(223))
	done := map[int]int{}
	for range 600 {
		live(t, r, done)
	}
	for kind := order.Remove; kind <= order.Mark; kind++ {
		if done[kind] < 500 {
			t.Errorf("%d was advised %d times: too few to try it", kind, done[kind])
		}
	}
}
