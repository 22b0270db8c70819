package shard_test

import (
	"math"
	"math/rand"
	"slices"
	"testing"

	"sautoir/api"
	"sautoir/entry"
	"sautoir/keys"
	"sautoir/object"
	"sautoir/session"
	"sautoir/shard"
)

// version and span are the model's, in the chapters' words.
type version struct {
	key string
	object.Version
}

type span struct {
	id            api.ID
	reads, writes []string
	at, till      int
}

// model is all that ever was of a shard, told as plainly as the chapters tell it.
type model struct {
	number, shards, n int
	versions          []version
	spans             []span
	slots             map[int]session.Slot
	open              []entry.Txn
}

func newModel(number, shards int) *model {
	return &model{number: number, shards: shards, slots: map[int]session.Slot{}}
}

func (m *model) part(x entry.Txn) (reads []entry.Read, writes []entry.Write) {
	for _, r := range x.Reads {
		if keys.Shard(r.Key, m.shards) == m.number {
			reads = append(reads, r)
		}
	}
	for _, w := range x.Writes {
		if keys.Shard(w.Key, m.shards) == m.number {
			writes = append(writes, w)
		}
	}
	return reads, writes
}

func (m *model) involved(x entry.Txn) bool {
	reads, writes := m.part(x)
	return len(reads)+len(writes) > 0
}

func (m *model) last(x entry.Txn) bool {
	for _, key := range x.Keys() {
		if keys.Shard(key, m.shards) > m.number {
			return false
		}
	}
	return true
}

func (m *model) num(key string) uint64 {
	num := uint64(0)
	for _, v := range m.versions {
		if v.key == key {
			num = v.Num
		}
	}
	return num
}

func (m *model) busy(key string, write bool) bool {
	for _, s := range m.spans {
		if s.till == 0 && (slices.Contains(s.writes, key) || write && slices.Contains(s.reads, key)) {
			return true
		}
	}
	return false
}

func (m *model) how(x api.ID) int {
	slot, has := m.slots[x.Client]
	if !has || slot.Seq < x.Seq {
		return session.New
	}
	if slot.Seq == x.Seq {
		return session.Same
	}
	return session.Old
}

func (m *model) verdict(x entry.Txn) api.Errno {
	reads, writes := m.part(x)
	for _, r := range reads {
		if m.busy(r.Key, false) {
			return api.ErrLocked
		}
	}
	for _, w := range writes {
		if m.busy(w.Key, true) {
			return api.ErrLocked
		}
	}
	for _, r := range reads {
		if m.num(r.Key) != r.Num {
			return api.ErrStale
		}
	}
	return api.OK
}

func (m *model) put(x entry.Txn) {
	_, writes := m.part(x)
	for _, w := range writes {
		m.versions = append(m.versions, version{w.Key, object.Version{At: m.n, Num: m.num(w.Key) + 1, Val: w.Val, Gone: w.Gone}})
	}
}

func (m *model) done(x api.ID, code api.Errno, num uint64) {
	m.slots[x.Client] = session.Slot{Seq: x.Seq, At: m.n, Code: code, Num: num}
}

func (m *model) apply(e entry.Entry) {
	m.n++
	if !entry.Right(e) {
		return
	}
	if e.Kind == entry.Finish {
		m.finish(e)
		return
	}
	x := e.Txn
	if !m.involved(x) || m.how(x.ID) != session.New || m.slots[x.ID.Client].Open {
		return
	}
	if v := m.verdict(x); v != api.OK {
		m.done(x.ID, v, 0)
		return
	}
	if !m.last(x) {
		m.take(x)
		return
	}
	m.put(x)
	num := uint64(0)
	if x.Plain {
		num = m.num(x.Writes[0].Key)
	}
	m.done(x.ID, api.OK, num)
}

func (m *model) take(x entry.Txn) {
	s := span{id: x.ID, at: m.n}
	reads, writes := m.part(x)
	for _, r := range reads {
		s.reads = append(s.reads, r.Key)
	}
	for _, w := range writes {
		s.writes = append(s.writes, w.Key)
	}
	m.spans = append(m.spans, s)
	m.slots[x.ID.Client] = session.Slot{Seq: x.ID.Seq, Open: true, At: m.n}
	m.open = append(m.open, x)
}

func (m *model) finish(e entry.Entry) {
	for i, x := range m.open {
		if x.ID != e.ID {
			continue
		}
		if e.Code == api.OK {
			m.put(x)
		}
		for j := range m.spans {
			if m.spans[j].id == e.ID && m.spans[j].till == 0 {
				m.spans[j].till = m.n
			}
		}
		m.done(e.ID, e.Code, 0)
		m.open = slices.Concat(m.open[:i], m.open[i+1:])
		return
	}
}

func (m *model) read(key string, n int) told {
	for _, s := range m.spans {
		if slices.Contains(s.writes, key) && s.at <= n && (s.till == 0 || s.till > n) {
			return told{e: api.ErrLocked}
		}
	}
	var got told
	for _, v := range m.versions {
		if v.key == key && v.At <= n {
			got = told{v.Version, true, api.OK}
		}
	}
	return got
}

func (m *model) dirty(n int) []string {
	var l []string
	for _, v := range m.versions {
		if v.At > n {
			l = append(l, v.key)
		}
	}
	slices.Sort(l)
	return slices.Compact(l)
}

func (m *model) ready(x entry.Txn) api.Errno {
	switch {
	case !entry.RightTxn(x) || !m.involved(x):
		return api.ErrArg
	case m.how(x.ID) == session.Old:
		return api.ErrOld
	case m.how(x.ID) == session.Same:
		return api.ErrThere
	case m.slots[x.ID.Client].Open:
		return api.ErrState
	case x.Plain && m.busy(x.Writes[0].Key, true):
		return api.ErrLocked
	}
	return api.OK
}

// told is what Read tells.
type told struct {
	v  object.Version
	ok bool
	e  api.Errno
}

func readAt(s *shard.State, key string, n int) told {
	v, ok, e := s.Read(key, n)
	return told{v, ok, e}
}

func names() []string {
	return []string{"a", "b", "c", "d", "e", "f", "g", "h", "A", "", "none"}
}

func numbers(last int) []int {
	l := []int{math.MinInt, -1, math.MaxInt}
	for n := range last + 3 {
		l = append(l, n)
	}
	return l
}

// check holds all that a shard answers against the model.
func check(t *testing.T, s *shard.State, m *model) {
	t.Helper()
	if s.N() != m.n {
		t.Fatalf("%d entries were applied, not %d", s.N(), m.n)
	}
	for _, key := range names() {
		if s.Num(key) != m.num(key) {
			t.Fatalf("Num(%q) = %d, not %d", key, s.Num(key), m.num(key))
		}
		for _, n := range numbers(m.n) {
			if got := readAt(s, key, n); got != m.read(key, n) {
				t.Fatalf("Read(%q, %d) = %v, not %v", key, n, got, m.read(key, n))
			}
		}
	}
	for _, n := range numbers(m.n) {
		if got := s.Dirty(n); !slices.Equal(got, m.dirty(n)) {
			t.Fatalf("Dirty(%d) = %v, not %v", n, got, m.dirty(n))
		}
	}
	if !slices.EqualFunc(s.Opens(), m.open, sameTxn) {
		t.Fatalf("Opens() = %v, not %v", s.Opens(), m.open)
	}
	checkIDs(t, s, m)
}

func checkIDs(t *testing.T, s *shard.State, m *model) {
	t.Helper()
	for client := -1; client <= api.MaxClients; client++ {
		for seq := range uint64(12) {
			x := id(client, seq)
			if slot, how := s.Slot(x); slot != m.slots[client] || how != m.how(x) {
				t.Fatalf("Slot(%v) = %v, %d, not %v, %d", x, slot, how, m.slots[client], m.how(x))
			}
			open := slices.ContainsFunc(m.open, func(o entry.Txn) bool { return o.ID == x })
			if s.IsOpen(x) != open {
				t.Fatalf("IsOpen(%v) is not %v", x, open)
			}
		}
	}
}

// randomTxn answers a transaction that is right most times, of few keys, so that many meet.
func randomTxn(r *rand.Rand, m *model) entry.Txn {
	x := entry.Txn{ID: id(r.Intn(api.MaxClients), 1+uint64(r.Intn(10)))}
	all := names()[:8]
	if r.Intn(20) == 0 {
		all = names()
	}
	r.Shuffle(len(all), func(i, j int) { all[i], all[j] = all[j], all[i] })
	if r.Intn(3) == 0 {
		x.Plain, x.Writes = true, []entry.Write{randomWrite(r, all[0])}
		return x
	}
	for i := range r.Intn(3) {
		num := m.num(all[i])
		if r.Intn(8) == 0 {
			num += uint64(r.Intn(3)) - 1
		}
		x.Reads = append(x.Reads, entry.Read{Key: all[i], Num: num})
	}
	for i := range r.Intn(3) {
		x.Writes = append(x.Writes, randomWrite(r, all[i+1]))
	}
	return x
}

func randomWrite(r *rand.Rand, key string) entry.Write {
	if r.Intn(4) == 0 {
		return entry.Write{Key: key, Gone: true}
	}
	return entry.Write{Key: key, Val: string(rune('a' + r.Intn(26)))}
}

func randomEntry(r *rand.Rand, m *model) entry.Entry {
	codes := []api.Errno{api.OK, api.OK, api.ErrStale, api.ErrLocked, api.ErrOld}
	e := entry.Entry{Epoch: 1 + uint64(r.Intn(3))}
	switch k := r.Intn(20); {
	case k < 6 && len(m.open) > 0:
		e.Kind, e.ID, e.Code = entry.Finish, m.open[r.Intn(len(m.open))].ID, codes[r.Intn(5)]
	case k == 7:
		e.Kind, e.ID, e.Code = entry.Finish, id(r.Intn(6), uint64(r.Intn(10))), codes[r.Intn(5)]
	case k == 8:
		e.Epoch, e.Kind, e.Txn = 0, entry.Part, randomTxn(r, m)
	case k == 9:
		e.Kind, e.Txn = r.Intn(5)-1, randomTxn(r, m)
	default:
		e.Kind, e.Txn = entry.Part, randomTxn(r, m)
	}
	return e
}

func TestManyEntries(t *testing.T) { // P14.1, P14.2, P14.3
	r := rand.New(rand.NewSource(14))
	for range 300 {
		shards := 1 + r.Intn(api.MaxShards)
		number := r.Intn(shards)
		s, m := shard.New(number, shards), newModel(number, shards)
		var l []entry.Entry
		for range 25 {
			e := randomEntry(r, m)
			l = append(l, e)
			s.Apply(e)
			m.apply(e)
			check(t, s, m)
			for range 10 {
				if x := randomTxn(r, m); s.Ready(x) != m.ready(x) {
					t.Fatalf("Ready(%v) = %d, not %d", x, s.Ready(x), m.ready(x))
				}
			}
		}
		check(t, shard.Replay(number, shards, l), m)
	}
}

// What is read at a number that was reached is read there ever after.
func TestReadStays(t *testing.T) { // P14.4
	r := rand.New(rand.NewSource(144))
	for range 100 {
		s, m := shard.New(0, 2), newModel(0, 2)
		seen := map[string][]told{}
		for range 40 {
			e := randomEntry(r, m)
			s.Apply(e)
			m.apply(e)
			for _, key := range names() {
				seen[key] = append(seen[key], readAt(s, key, s.N()))
				for i, was := range seen[key] {
					if got := readAt(s, key, i+1); got != was {
						t.Fatalf("Read(%q, %d) was %v, and is %v behind %d entries", key, i+1, was, got, s.N())
					}
				}
			}
		}
	}
}

// While a transaction is open, its keys are what they were, but for what finishes it.
func TestOpenKeysStay(t *testing.T) { // P14.5
	r := rand.New(rand.NewSource(145))
	for range 200 {
		s, m := shard.New(0, 2), newModel(0, 2)
		for range 40 {
			e := randomEntry(r, m)
			before := s.Opens()
			var nums [][]uint64
			for _, x := range before {
				nums = append(nums, numsOf(s, x))
			}
			s.Apply(e)
			m.apply(e)
			for i, x := range before {
				if s.IsOpen(x.ID) && !slices.Equal(numsOf(s, x), nums[i]) {
					t.Fatalf("%v changes a key of %v", e, x)
				}
			}
		}
	}
}

func numsOf(s *shard.State, x entry.Txn) []uint64 {
	var l []uint64
	for _, key := range x.Keys() {
		l = append(l, s.Num(key))
	}
	return l
}
