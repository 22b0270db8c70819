package beat_test

import (
	"math"
	"math/rand"
	"testing"

	"sautoir/api"
	"sautoir/beat"
	"sautoir/order"
)

// noServers are numbers of which there is no server.
func noServers() []int {
	return []int{math.MinInt, -2, -1, api.MaxServers, api.MaxServers + 1, 1 << 32, math.MaxInt}
}

// reports are of all kinds: a watch keeps whatever it hears.
func reports() []beat.Report {
	return []beat.Report{
		{},
		{Synced: -1},
		{Shard: 1, Epoch: 3, Full: true, Synced: 2},
		{Shard: -1, Epoch: math.MaxUint64, Synced: 99},
		{Shard: math.MinInt, Full: true, Synced: math.MaxInt},
		{Shard: math.MaxInt, Epoch: 1, Synced: math.MinInt},
	}
}

// tick has n ticks go by.
func tick(w *beat.Watch, n int) {
	for range n {
		w.Tick()
	}
}

// hear has w hear r of node.
func hear(t *testing.T, w *beat.Watch, node int, r beat.Report) {
	t.Helper()
	if e := w.Heard(node, r); e != api.OK {
		t.Fatalf("Heard(%d, %v) = %d", node, r, e)
	}
}

// model is a watch once more: of each server when it was heard, and what it said.
type model struct {
	limit, now int
	at         map[int]int
	said       map[int]beat.Report
}

func (m *model) suspects(node int) bool {
	return node >= 0 && node < api.MaxServers && m.now-m.at[node] > m.limit
}

// expect holds all that w tells against the model.
func expect(t *testing.T, name string, w *beat.Watch, m *model) {
	t.Helper()
	for node := range api.MaxServers {
		want, there := m.said[node]
		if r, ok := w.Last(node); r != want || ok != there {
			t.Fatalf("%s: Last(%d) = %v, %v; want %v, %v", name, node, r, ok, want, there)
		}
		if w.Suspects(node) != m.suspects(node) {
			t.Fatalf("%s: Suspects(%d) = %v", name, node, !m.suspects(node))
		}
	}
	for _, node := range noServers() {
		if r, ok := w.Last(node); r != (beat.Report{}) || ok {
			t.Fatalf("%s: Last(%d) = %v, %v", name, node, r, ok)
		}
		if w.Suspects(node) {
			t.Fatalf("%s: %d is suspected", name, node)
		}
	}
}

func TestNil(t *testing.T) { // P22.1, P22.2, P1
	var w *beat.Watch
	w.Tick()
	for _, node := range append(noServers(), 0, 7) {
		for _, r := range reports() {
			if e := w.Heard(node, r); e != api.ErrNil {
				t.Errorf("Heard(%d, %v) = %d", node, r, e)
			}
		}
	}
	expect(t, "none", w, &model{})
	s := order.New(order.Setup{Shards: 1, Length: 2, Servers: 3})
	late := beat.New(1)
	tick(late, 9)
	if _, ok := beat.Advice(s, late); !ok {
		t.Fatal("there is something to be advised")
	}
	for _, x := range []struct {
		s *order.State
		w *beat.Watch
	}{{nil, nil}, {nil, late}, {s, nil}, {&order.State{}, late}} {
		if c, ok := beat.Advice(x.s, x.w); c != (order.Cmd{}) || ok {
			t.Error("advice of none", c, ok)
		}
	}
}

func TestByHand(t *testing.T) { // P1
	w := &beat.Watch{}
	expect(t, "made by hand", w, &model{})
	w.Tick()
	hear(t, w, 3, beat.Report{Epoch: 1})
	if r, ok := w.Last(3); !ok || r.Epoch != 1 || w.Suspects(3) {
		t.Error("made by hand:", r, ok)
	}
	if c, ok := beat.Advice(order.New(order.Setup{Shards: 1, Length: 1, Servers: 1}), &beat.Watch{}); ok {
		t.Error("made by hand:", c)
	}
}

func TestLimit(t *testing.T) { // P22.1
	for _, x := range []struct{ given, taken int }{
		{math.MinInt, 1}, {-1, 1}, {0, 1}, {1, 1}, {2, 2}, {7, 7}, {999, 999}, {1000, 1000}, {1001, 1000}, {1 << 32, 1000}, {math.MaxInt, 1000},
	} {
		w, m := beat.New(x.given), &model{limit: x.taken}
		expect(t, "a new one", w, m)
		tick(w, x.taken)
		m.now = x.taken
		expect(t, "at the limit", w, m)
		if w.Suspects(0) {
			t.Errorf("New(%d) suspects behind %d ticks", x.given, x.taken)
		}
		w.Tick()
		m.now++
		expect(t, "above the limit", w, m)
		if !w.Suspects(0) || !w.Suspects(7) {
			t.Errorf("New(%d) does not suspect behind %d ticks", x.given, x.taken+1)
		}
	}
}

func TestHeard(t *testing.T) { // P22.1
	w, m := beat.New(2), &model{limit: 2, at: map[int]int{}, said: map[int]beat.Report{}}
	for _, r := range reports() {
		tick(w, 3)
		m.now += 3
		hear(t, w, 4, r)
		m.at[4], m.said[4] = m.now, r
		expect(t, "heard of one", w, m)
	}
	tick(w, 2)
	m.now += 2
	expect(t, "at the limit since", w, m)
	w.Tick()
	m.now++
	expect(t, "above the limit since", w, m)
	for _, node := range noServers() {
		if e := w.Heard(node, beat.Report{Epoch: 1}); e != api.ErrArg {
			t.Errorf("Heard(%d) = %d", node, e)
		}
		expect(t, "heard of no server", w, m)
	}
}

// TestWatch has reports and ticks come in any order.
func TestWatch(t *testing.T) { // P22.1
	r := rand.New(rand.NewSource(22))
	suspected := 0
	for range 100 {
		limit := 1 + r.Intn(12)
		w, m := beat.New(limit), &model{limit: limit, at: map[int]int{}, said: map[int]beat.Report{}}
		for range 150 {
			if r.Intn(2) == 0 {
				w.Tick()
				m.now++
			} else {
				node, x := r.Intn(api.MaxServers), beat.Report{Shard: r.Intn(4), Epoch: uint64(r.Intn(9)), Full: r.Intn(2) == 0, Synced: r.Intn(9) - 1}
				hear(t, w, node, x)
				m.at[node], m.said[node] = m.now, x
			}
			expect(t, "in between", w, m)
			for node := range api.MaxServers {
				if w.Suspects(node) {
					suspected++
				}
			}
		}
	}
	if suspected < 1000 {
		t.Errorf("%d were suspected: too few to try it", suspected)
	}
}
