package lock_test

import (
	"math"
	"math/rand"
	"slices"
	"strings"
	"testing"

	"sautoir/api"
	"sautoir/lock"
)

func id(client int, seq uint64) api.ID { return api.ID{Client: client, Seq: seq} }

func list(l ...string) []string { return l }

// span is one of the model's, in the chapter's words.
type span struct {
	id            api.ID
	reads, writes []string
	at, till      int
}

// model is all spans that there ever were, told as plainly as the chapter tells them.
type model struct {
	spans []span
	last  int
}

func (m *model) held() []span {
	var l []span
	for _, s := range m.spans {
		if s.till == 0 {
			l = append(l, s)
		}
	}
	return l
}

func (m *model) holds(id api.ID) bool {
	for _, s := range m.held() {
		if s.id == id {
			return true
		}
	}
	return false
}

func (m *model) busy(key string, write bool) bool {
	for _, s := range m.held() {
		if slices.Contains(s.writes, key) || write && slices.Contains(s.reads, key) {
			return true
		}
	}
	return false
}

func (m *model) take(id api.ID, at int, reads, writes []string) api.Errno {
	if at <= m.last {
		return api.ErrArg
	}
	if m.holds(id) {
		return api.ErrThere
	}
	for _, key := range reads {
		if m.busy(key, false) {
			return api.ErrLocked
		}
	}
	for _, key := range writes {
		if m.busy(key, true) {
			return api.ErrLocked
		}
	}
	m.spans = append(m.spans, span{id: id, reads: reads, writes: writes, at: at})
	m.last = at
	return api.OK
}

func (m *model) free(id api.ID, at int) api.Errno {
	if at <= m.last {
		return api.ErrArg
	}
	for i, s := range m.spans {
		if s.till == 0 && s.id == id {
			m.spans[i].till, m.last = at, at
			return api.OK
		}
	}
	return api.ErrNone
}

// writers answers all that write key at n: there must never be two.
func (m *model) writers(key string, n int) []api.ID {
	var l []api.ID
	for _, s := range m.spans {
		if slices.Contains(s.writes, key) && s.at <= n && (s.till == 0 || s.till > n) {
			l = append(l, s.id)
		}
	}
	return l
}

func names() []string { return []string{"a", "b", "c", "d", "none", "A", ""} }

func holders() []api.ID {
	return []api.ID{id(0, 0), id(0, 1), id(1, 1), id(1, 2), id(2, 1), id(-1, math.MaxUint64)}
}

func numbers(last int) []int {
	l := []int{math.MinInt, -1, math.MaxInt}
	for n := range last + 3 {
		l = append(l, n)
	}
	return l
}

// check holds all that a table answers against the model.
func check(t *testing.T, l *lock.Table, m *model) {
	t.Helper()
	if got, want := l.Len(), len(m.held()); got != want {
		t.Fatalf("Len() = %d, want %d", got, want)
	}
	for _, who := range holders() {
		if got, want := l.Holds(who), m.holds(who); got != want {
			t.Fatalf("Holds(%v) = %v", who, got)
		}
	}
	for _, key := range names() {
		for _, write := range []bool{false, true} {
			if got, want := l.Busy(key, write), m.busy(key, write); got != want {
				t.Fatalf("Busy(%q, %v) = %v", key, write, got)
			}
		}
		for _, n := range numbers(m.last) {
			checkWriter(t, l, m, key, n)
		}
	}
}

func checkWriter(t *testing.T, l *lock.Table, m *model, key string, n int) {
	t.Helper()
	want := m.writers(key, n)
	if len(want) > 1 {
		t.Fatalf("%q has %d writers at %d", key, len(want), n)
	}
	who, ok := l.Writer(key, n)
	if ok != (len(want) == 1) || ok && who != want[0] || !ok && who != (api.ID{}) {
		t.Fatalf("Writer(%q, %d) = %v, %v; want %v", key, n, who, ok, want)
	}
}

// both does the same to the table and to the model; what they answer must be the same, and it must be want.
type both struct {
	t *testing.T
	l *lock.Table
	m *model
}

func begin(t *testing.T) both { return both{t, lock.New(), &model{}} }

func (b both) take(want api.Errno, id api.ID, at int, reads, writes []string) {
	b.t.Helper()
	got, told := b.l.Take(id, at, reads, writes), b.m.take(id, at, reads, writes)
	if got != want || told != want {
		b.t.Fatalf("Take(%v, %d, %q, %q) = %d, want %d, the model %d", id, at, reads, writes, got, want, told)
	}
	check(b.t, b.l, b.m)
}

func (b both) free(want api.Errno, id api.ID, at int) {
	b.t.Helper()
	got, told := b.l.Free(id, at), b.m.free(id, at)
	if got != want || told != want {
		b.t.Fatalf("Free(%v, %d) = %d, want %d, the model %d", id, at, got, want, told)
	}
	check(b.t, b.l, b.m)
}

func TestNew(t *testing.T) { // P11.1
	check(t, lock.New(), &model{})
	one := lock.New()
	if one.Take(id(0, 1), 1, nil, list("a")) != api.OK || lock.New().Len() != 0 || lock.New().Busy("a", false) {
		t.Error("a new table has another one's spans")
	}
}

func TestTake(t *testing.T) { // P11.1
	b := begin(t)
	b.take(api.OK, id(1, 1), 1, list("a"), list("b"))
	b.take(api.OK, id(1, 2), 2, list("a"), nil)
	b.take(api.OK, id(2, 1), 7, nil, nil)
	// What one holder reads and writes, it may name in both lists, and more than once.
	b.take(api.OK, id(0, 1), 8, list("c", "c"), list("c", "d", "d"))
	b.take(api.OK, id(-1, math.MaxUint64), math.MaxInt, list("a"), nil)
}

func TestTakeLocked(t *testing.T) { // P11.1, P11.3
	b := begin(t)
	b.take(api.OK, id(1, 1), 1, list("a"), list("b"))
	b.take(api.ErrLocked, id(2, 1), 2, nil, list("a"))
	b.take(api.ErrLocked, id(2, 1), 2, list("c"), list("d", "a"))
	b.take(api.ErrLocked, id(2, 1), 2, nil, list("b"))
	b.take(api.ErrLocked, id(2, 1), 2, list("b"), nil)
	b.take(api.ErrLocked, id(2, 1), 2, list("c", "b"), list("d"))
	b.take(api.ErrLocked, id(1, 2), 2, list("b"), nil)
	b.take(api.OK, id(2, 1), 2, list("a", "c"), list("d"))
	b.free(api.OK, id(1, 1), 3)
	b.take(api.ErrLocked, id(1, 1), 4, nil, list("a"))
	b.take(api.OK, id(1, 1), 4, list("a"), list("b"))
}

func TestTakeThere(t *testing.T) { // P11.1
	b := begin(t)
	b.take(api.OK, id(1, 1), 1, list("a"), list("b"))
	b.take(api.ErrThere, id(1, 1), 2, nil, list("c"))
	b.take(api.ErrThere, id(1, 1), 2, nil, nil)
	// It is named ahead of what is busy.
	b.take(api.ErrThere, id(1, 1), 2, list("b"), list("a"))
	b.take(api.OK, id(1, 2), 2, nil, list("c"))
	b.free(api.OK, id(1, 1), 3)
	b.take(api.OK, id(1, 1), 4, list("a"), list("b"))
	b.take(api.ErrThere, id(1, 1), 5, nil, nil)
}

func TestTakeNumbers(t *testing.T) { // P11.1
	b := begin(t)
	for _, at := range []int{math.MinInt, -1, 0} {
		b.take(api.ErrArg, id(1, 1), at, nil, list("a"))
	}
	b.take(api.OK, id(1, 1), 5, nil, list("a"))
	for _, at := range []int{math.MinInt, 0, 1, 4, 5} {
		b.take(api.ErrArg, id(1, 2), at, nil, list("b"))
		b.take(api.ErrArg, id(1, 1), at, nil, list("a"))
	}
	b.free(api.OK, id(1, 1), 9)
	for _, at := range []int{5, 6, 8, 9} {
		b.take(api.ErrArg, id(1, 2), at, nil, list("b"))
	}
	// A refused one is not the last.
	b.take(api.OK, id(1, 1), 10, nil, list("a"))
	b.take(api.ErrLocked, id(1, 2), 20, nil, list("a"))
	b.free(api.ErrNone, id(1, 2), 30)
	b.take(api.OK, id(1, 2), 11, nil, list("b"))
}

func TestTakeWrongKeys(t *testing.T) { // P11.1
	b := begin(t)
	b.take(api.OK, id(1, 1), 1, list("a"), list("b"))
	for _, key := range []string{"", "A", "a b", "\xff", "-", strings.Repeat("k", 33)} {
		// They are named ahead of a holder that is there, and of what is busy.
		for _, who := range []api.ID{id(1, 1), id(2, 1)} {
			for _, l := range [][]string{list(key), list("c", key), list("b", key)} {
				if e := b.l.Take(who, 2, l, nil); e != api.ErrArg {
					t.Errorf("Take(%v, 2, %q, nil) = %d", who, l, e)
				}
				if e := b.l.Take(who, 2, nil, l); e != api.ErrArg {
					t.Errorf("Take(%v, 2, nil, %q) = %d", who, l, e)
				}
			}
		}
	}
	check(t, b.l, b.m)
	b.take(api.OK, id(2, 1), 2, list(strings.Repeat("k", 32)), list("_", "0z"))
}

func TestFree(t *testing.T) { // P11.1
	b := begin(t)
	b.free(api.ErrNone, id(1, 1), 1)
	b.free(api.ErrArg, id(1, 1), 0)
	b.free(api.ErrArg, id(1, 1), math.MinInt)
	b.take(api.OK, id(1, 1), 3, list("a"), list("b"))
	b.take(api.OK, id(1, 2), 4, nil, list("c"))
	b.take(api.OK, id(2, 1), 5, list("a"), nil)
	for _, at := range []int{math.MinInt, 0, 3, 5} {
		b.free(api.ErrArg, id(1, 1), at)
		b.free(api.ErrArg, id(0, 1), at)
	}
	b.free(api.ErrNone, id(2, 2), 6)
	b.free(api.ErrNone, id(0, 1), 6)
	b.free(api.OK, id(1, 2), 6)
	b.free(api.ErrNone, id(1, 2), 7)
	b.free(api.ErrArg, id(1, 1), 6)
	b.free(api.OK, id(1, 1), 7)
	b.free(api.OK, id(2, 1), math.MaxInt)
	b.free(api.ErrArg, id(2, 1), math.MaxInt)
	b.take(api.ErrArg, id(2, 1), math.MaxInt, nil, nil)
}

func TestBusyHoldsLen(t *testing.T) { // P11.2
	l := lock.New()
	l.Take(id(1, 1), 1, list("a"), list("b"))
	l.Take(id(2, 7), 2, list("a"), list("c"))
	for key, want := range map[string][2]bool{"a": {false, true}, "b": {true, true}, "c": {true, true}, "d": {}, "": {}, "\xff": {}} {
		if got := [2]bool{l.Busy(key, false), l.Busy(key, true)}; got != want {
			t.Errorf("%q is busy %v, want %v", key, got, want)
		}
	}
	if !l.Holds(id(1, 1)) || !l.Holds(id(2, 7)) || l.Holds(id(2, 1)) || l.Holds(id(1, 7)) || l.Holds(api.ID{}) || l.Len() != 2 {
		t.Error("Holds, Len")
	}
	l.Free(id(2, 7), 3)
	if l.Busy("c", true) || !l.Busy("a", true) || l.Holds(id(2, 7)) || l.Len() != 1 {
		t.Error("behind a Free")
	}
	l.Free(id(1, 1), 4)
	if l.Busy("a", true) || l.Busy("b", false) || l.Holds(id(1, 1)) || l.Len() != 0 {
		t.Error("behind both")
	}
}

func TestWriter(t *testing.T) { // P11.2, P11.3
	l := lock.New()
	l.Take(id(1, 1), 2, list("r"), list("a", "b"))
	l.Free(id(1, 1), 5)
	l.Take(id(2, 1), 6, list("b"), nil)
	l.Take(id(3, 1), 8, nil, list("a"))
	l.Free(id(3, 1), 9)
	l.Take(id(1, 1), 10, nil, list("a"))
	none := api.ID{}
	for n, want := range []api.ID{none, none, id(1, 1), id(1, 1), id(1, 1), none, none, none, id(3, 1), none, id(1, 1), id(1, 1)} {
		if who, ok := l.Writer("a", n); who != want || ok != (want != none) {
			t.Errorf("Writer(a, %d) = %v, %v; want %v", n, who, ok, want)
		}
	}
	if who, ok := l.Writer("a", math.MaxInt); who != id(1, 1) || !ok {
		t.Error("one that is held has no end")
	}
	if who, ok := l.Writer("b", 4); who != id(1, 1) || !ok {
		t.Error("the second key of a span")
	}
	for _, key := range []string{"r", "b", "c", "", "A"} {
		if who, ok := l.Writer(key, 7); who != none || ok {
			t.Errorf("Writer(%q, 7) = %v, %v", key, who, ok)
		}
	}
	if who, ok := l.Writer("a", math.MinInt); who != none || ok {
		t.Errorf("Writer at the least number = %v, %v", who, ok)
	}
}

func TestWriterZeroID(t *testing.T) { // P11.2
	l := lock.New()
	l.Take(api.ID{}, 1, nil, list("a"))
	if who, ok := l.Writer("a", 1); who != (api.ID{}) || !ok {
		t.Error("the zero ID that holds is told by true")
	}
}

func TestRandom(t *testing.T) { // P11.1, P11.2, P11.3
	r := rand.New(rand.NewSource(11))
	some := func() []string {
		var l []string
		for range r.Intn(3) {
			l = append(l, names()[r.Intn(4)])
		}
		return l
	}
	for range 150 {
		b := begin(t)
		for range 40 {
			who, at := holders()[r.Intn(len(holders()))], b.m.last+r.Intn(4)
			if r.Intn(3) == 0 {
				if got, want := b.l.Free(who, at), b.m.free(who, at); got != want {
					t.Fatalf("Free(%v, %d) = %d, want %d", who, at, got, want)
				}
			} else {
				reads, writes := some(), some()
				if got, want := b.l.Take(who, at, reads, writes), b.m.take(who, at, reads, writes); got != want {
					t.Fatalf("Take(%v, %d, %q, %q) = %d, want %d", who, at, reads, writes, got, want)
				}
			}
			nobodyBeside(t, b.m)
		}
		check(t, b.l, b.m)
	}
}

// nobodyBeside: of two that hold, neither writes what the other one holds.
func nobodyBeside(t *testing.T, m *model) { // P11.3
	t.Helper()
	held := m.held()
	for i, a := range held {
		for j, b := range held {
			for _, key := range a.writes {
				if i != j && (slices.Contains(b.writes, key) || slices.Contains(b.reads, key)) {
					t.Fatalf("%v writes %q, and %v holds it", a.id, key, b.id)
				}
			}
		}
	}
}

func TestListsAreNotKept(t *testing.T) { // P11.1 (rules 4 and 5)
	l := lock.New()
	reads, writes := append(make([]string, 0, 8), "a", "b"), append(make([]string, 0, 8), "c", "d")
	l.Take(id(1, 1), 1, reads, writes)
	if !slices.Equal(reads, list("a", "b")) || !slices.Equal(writes, list("c", "d")) {
		t.Fatal("Take changed what it was given")
	}
	reads[0], writes[0] = "x", "y"
	if !l.Busy("a", true) || !l.Busy("c", false) || l.Busy("x", true) || l.Busy("y", true) {
		t.Error("a held span hangs on the caller's lists")
	}
	l.Free(id(1, 1), 2)
	writes[1] = "z"
	if who, ok := l.Writer("d", 1); who != id(1, 1) || !ok {
		t.Error("a freed span hangs on the caller's list")
	}
}

func TestNilAndHandmade(t *testing.T) { // P1, P11.1, P11.2
	var none *lock.Table
	for _, n := range []int{math.MinInt, 0, 1, math.MaxInt} {
		if none.Take(id(1, 1), n, list("A"), nil) != api.ErrNil || none.Free(id(1, 1), n) != api.ErrNil {
			t.Error("a nil table takes")
		}
		if who, ok := none.Writer("a", n); who != (api.ID{}) || ok {
			t.Error("a nil table has a writer")
		}
	}
	if none.Holds(id(1, 1)) || none.Busy("a", true) || none.Busy("a", false) || none.Len() != 0 {
		t.Error("a nil table holds")
	}
	b := both{t, new(lock.Table), &model{}}
	check(t, b.l, b.m)
	b.free(api.ErrNone, id(1, 1), 1)
	b.take(api.OK, id(1, 1), 1, list("a"), list("b"))
	b.free(api.OK, id(1, 1), 2)
}
