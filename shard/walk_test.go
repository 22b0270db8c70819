package shard_test

import (
	"math/rand"
	"slices"
	"testing"

	"sautoir/api"
	"sautoir/entry"
	"sautoir/shard"
)

// trip is a transaction on its way through its shards, and back with what the last one told.
type trip struct {
	x      entry.Txn
	at     int // which of its shards is next
	back   bool
	code   api.Errno
	before map[string]uint64 // each key's number when its shard took it, or refused it
}

func (g *trip) over() bool { return g.back && g.at < 0 }

// step does the next part of a trip.
func (g *trip) step(all []*shard.State) {
	where := g.x.Shards(len(all))
	s := all[where[g.at]]
	if g.back {
		s.Apply(finish(g.x.ID, g.code))
		g.at--
		return
	}
	reads, writes := g.x.Part(where[g.at], len(all))
	for _, r := range reads {
		g.before[r.Key] = s.Num(r.Key)
	}
	for _, w := range writes {
		g.before[w.Key] = s.Num(w.Key)
	}
	s.Apply(part(g.x))
	slot, _ := s.Slot(g.x.ID)
	if slot.Open {
		g.at++
		return
	}
	g.back, g.code = true, slot.Code
	g.at--
}

// fresh answers a transaction with the numbers that its keys have now.
func fresh(r *rand.Rand, all []*shard.State, x api.ID) entry.Txn {
	m := newModel(0, 1)
	for {
		t := randomTxn(r, m)
		t.ID = x
		for i := range t.Reads {
			num := uint64(0)
			for _, s := range all {
				num = max(num, s.Num(t.Reads[i].Key))
			}
			t.Reads[i].Num = num
		}
		if entry.RightTxn(t) {
			return t
		}
	}
}

// wrote tells, of each key that x writes, whether its number is one more than it was.
func wrote(all []*shard.State, g *trip) []bool {
	var l []bool
	for _, w := range g.x.Writes {
		shards := entry.Txn{Writes: []entry.Write{w}}.Shards(len(all))
		before, reached := g.before[w.Key]
		l = append(l, reached && all[shards[0]].Num(w.Key) == before+1)
	}
	return l
}

func TestAlone(t *testing.T) { // P14.6
	r := rand.New(rand.NewSource(146))
	for range 500 {
		all := shards(1 + r.Intn(api.MaxShards))
		for seq := range uint64(10) {
			x := fresh(r, all, id(0, seq+1))
			if len(x.Reads) > 0 && r.Intn(3) == 0 {
				x.Reads[r.Intn(len(x.Reads))].Num++
			}
			g := &trip{x: x, before: map[string]uint64{}}
			for !g.over() {
				g.step(all)
			}
			if l := wrote(all, g); slices.Contains(l, g.code != api.OK) {
				t.Fatalf("%v ended with %d; written: %v", x, g.code, l)
			}
			for _, s := range all {
				noneHeld(t, s)
			}
		}
	}
}

func shards(n int) []*shard.State {
	var all []*shard.State
	for i := range n {
		all = append(all, shard.New(i, n))
	}
	return all
}

func noneHeld(t *testing.T, s *shard.State) {
	t.Helper()
	if len(s.Opens()) != 0 {
		t.Fatal("some are open", s.Opens())
	}
	for _, key := range names() {
		if s.Ready(plain(id(5, 1<<40), key, "x")) == api.ErrLocked || readAt(s, key, s.N()).e == api.ErrLocked {
			t.Fatalf("%s is held", key)
		}
	}
}

// Several at once: each ends in all of its shards with one code, and has one version of each key, or none.
func TestTogether(t *testing.T) { // P14.6, P14.5
	r := rand.New(rand.NewSource(1460))
	codes := map[api.Errno]int{}
	for range 300 {
		all := shards(2 + r.Intn(api.MaxShards-1))
		var going []*trip
		var ended []*trip
		for step := 0; step < 60 || len(going) > 0; step++ {
			if step < 60 && len(going) < api.MaxClients {
				client := freeClient(going)
				going = append(going, &trip{x: fresh(r, all, id(client, uint64(step)+1)), before: map[string]uint64{}})
			}
			i := r.Intn(len(going))
			going[i].step(all)
			twice(r, all, going[i])
			if g := going[i]; g.over() {
				codes[g.code]++
				ended = append(ended, g)
				going = slices.Delete(going, i, i+1)
			}
		}
		for _, s := range all {
			noneHeld(t, s)
		}
		for _, key := range names() {
			if got, want := allNums(all, key), puts(ended, key); got != want {
				t.Fatalf("%q has %d versions, and was written %d times", key, got, want)
			}
		}
	}
	if codes[api.OK] == 0 || codes[api.ErrLocked] == 0 || codes[api.ErrStale] == 0 {
		t.Error("how they ended", codes)
	}
}

// twice hands a shard once more what it had already: that does nothing.
func twice(r *rand.Rand, all []*shard.State, g *trip) {
	where := g.x.Shards(len(all))
	if g.back && g.at+1 < len(where) {
		all[where[g.at+1]].Apply(finish(g.x.ID, []api.Errno{api.OK, api.ErrStale}[r.Intn(2)]))
		all[where[g.at+1]].Apply(part(g.x))
	} else if !g.back && g.at > 0 {
		all[where[g.at-1]].Apply(part(g.x))
	}
}

func freeClient(going []*trip) int {
	for client := range api.MaxClients {
		if !slices.ContainsFunc(going, func(g *trip) bool { return g.x.ID.Client == client }) {
			return client
		}
	}
	return -1
}

func allNums(all []*shard.State, key string) int {
	sum := 0
	for _, s := range all {
		sum += int(s.Num(key))
	}
	return sum
}

func puts(ended []*trip, key string) int {
	n := 0
	for _, g := range ended {
		if g.code == api.OK && slices.ContainsFunc(g.x.Writes, func(w entry.Write) bool { return w.Key == key }) {
			n++
		}
	}
	return n
}
