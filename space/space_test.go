package space_test

import (
	"maps"
	"math"
	"math/rand"
	"slices"
	"strings"
	"testing"

	"sautoir/api"
	"sautoir/object"
	"sautoir/space"
)

type version = object.Version

func ver(at int, num uint64, val string, gone bool) version {
	return version{At: at, Num: num, Val: val, Gone: gone}
}

// put is one version that is put.
type put struct {
	key  string
	at   int
	val  string
	gone bool
}

// with answers a space in which all of it was put.
func with(t *testing.T, l ...put) *space.Space {
	t.Helper()
	s := space.New()
	for _, p := range l {
		if e := s.Put(p.key, p.at, p.val, p.gone); e != api.OK {
			t.Fatalf("Put(%v) = %d", p, e)
		}
	}
	return s
}

// some are puts under some keys, whose order is not that in which they are put.
func some() []put {
	return []put{
		{"b", 1, "x", false}, {"a", 2, "y", false}, {"b", 3, "", true}, {"_", 4, "", false}, {"z9", 4, "long", false},
		{"b", 5, "z", false}, {"ab", 7, "", true}, {"0", 7, "n", false}, {strings.Repeat("k", 32), 8, strings.Repeat("v", 64), false},
	}
}

func places() []int {
	return []int{math.MinInt, -1, 0, 1, 2, 3, 4, 5, 6, 7, 8, 9, 100, math.MaxInt}
}

// model is what a space is, told by layer 9 alone.
func model(l ...put) map[string]object.Object {
	m := map[string]object.Object{}
	for _, p := range l {
		if o, e := m[p.key].Put(p.at, p.val, p.gone); e == api.OK {
			m[p.key] = o
		}
	}
	return m
}

func rising(m map[string]object.Object, in func(object.Object) bool) []string {
	var l []string
	for key, o := range m {
		if in(o) {
			l = append(l, key)
		}
	}
	slices.Sort(l)
	return l
}

// check holds all that a space answers against the model.
func check(t *testing.T, s *space.Space, m map[string]object.Object) {
	t.Helper()
	all := rising(m, func(object.Object) bool { return true })
	if got := s.Keys(); !slices.Equal(got, all) {
		t.Fatalf("Keys() = %q, want %q", got, all)
	}
	for _, n := range places() {
		want := rising(m, func(o object.Object) bool { return o.Dirty(n) })
		if got := s.Dirty(n); !slices.Equal(got, want) {
			t.Fatalf("Dirty(%d) = %q, want %q", n, got, want)
		}
		for _, key := range append(all, "none", "", "A", strings.Repeat("k", 33)) {
			v, ok := m[key].Read(n)
			if got, there := s.Read(key, n); got != v || there != ok {
				t.Fatalf("Read(%q, %d) = %v, %v; want %v, %v", key, n, got, there, v, ok)
			}
			if got, want := s.Num(key), m[key].Last().Num; got != want {
				t.Fatalf("Num(%q) = %d, want %d", key, got, want)
			}
		}
	}
}

func TestNew(t *testing.T) { // P10.1
	check(t, space.New(), nil)
	if one := space.New(); one.Put("a", 1, "", false) != api.OK || space.Same(one, space.New()) || len(space.New().Keys()) != 0 {
		t.Error("a new space has what was put into another one")
	}
}

func TestPut(t *testing.T) { // P10.1
	s := space.New()
	for i, p := range some() {
		if e := s.Put(p.key, p.at, p.val, p.gone); e != api.OK {
			t.Fatalf("Put(%v) = %d", p, e)
		}
		check(t, s, model(some()[:i+1]...))
	}
}

func TestPutRefused(t *testing.T) { // P10.1
	s := with(t, some()...)
	for _, p := range []put{
		{"", 9, "x", false}, {"A", 9, "x", false}, {"a b", 9, "x", false}, {"\xff", 9, "", true}, {strings.Repeat("k", 33), 9, "x", false},
		{"a", 2, "x", false}, {"a", 1, "x", false}, {"a", 0, "x", false}, {"a", -7, "x", false}, {"a", math.MinInt, "x", false},
		{"a", 9, "X", false}, {"a", 9, strings.Repeat("v", 65), false}, {"a", 9, "x", true},
		{"new", 0, "x", false}, {"new", -1, "", true}, {"new", 9, "X", false}, {"new", 9, "x", true}, {"b", 5, "x", false},
	} {
		if e := s.Put(p.key, p.at, p.val, p.gone); e != api.ErrArg {
			t.Errorf("Put(%v) = %d", p, e)
		}
		check(t, s, model(some()...))
	}
	if e := s.Put("a", math.MaxInt, "", false); e != api.OK {
		t.Errorf("Put at the greatest place: %d", e)
	}
	if e := s.Put("a", math.MaxInt, "", false); e != api.ErrArg {
		t.Errorf("Put behind the greatest place: %d", e)
	}
}

func TestReadAndNum(t *testing.T) { // P10.2
	s := with(t, some()...)
	for _, c := range []struct {
		key  string
		n    int
		want version
		ok   bool
	}{
		{"b", 0, version{}, false},
		{"b", 1, ver(1, 1, "x", false), true},
		{"b", 2, ver(1, 1, "x", false), true},
		{"b", 3, ver(3, 2, "", true), true},
		{"b", math.MaxInt, ver(5, 3, "z", false), true},
		{"ab", 6, version{}, false},
		{"ab", 7, ver(7, 1, "", true), true},
		{"c", 7, version{}, false},
		{"", 7, version{}, false},
	} {
		if v, ok := s.Read(c.key, c.n); v != c.want || ok != c.ok {
			t.Errorf("Read(%q, %d) = %v, %v", c.key, c.n, v, ok)
		}
	}
	if s.Num("b") != 3 || s.Num("ab") != 1 || s.Num("c") != 0 || s.Num("") != 0 {
		t.Error("Num")
	}
}

func TestDirty(t *testing.T) { // P10.2
	s := with(t, put{"a", 1, "x", false}, put{"b", 2, "y", false})
	if l := s.Dirty(1); !slices.Equal(l, []string{"b"}) {
		t.Errorf("the chapter's example: %q", l)
	}
	if l := s.Dirty(0); !slices.Equal(l, []string{"a", "b"}) {
		t.Errorf("Dirty(0) = %q", l)
	}
	if l := s.Dirty(2); len(l) != 0 {
		t.Errorf("Dirty(2) = %q", l)
	}
}

func TestUndoAndClean(t *testing.T) { // P10.2
	for _, n := range places() {
		undone, clean := with(t, some()...), with(t, some()...)
		undone.Undo(n)
		clean.Clean(n)
		less, later := model(some()...), model(some()...)
		for key, o := range model(some()...) {
			less[key], later[key] = o.Undo(n), o.Clean(n)
			if len(less[key].L) == 0 {
				delete(less, key)
			}
		}
		check(t, undone, less)
		check(t, clean, later)
	}
}

func TestUndoneKeysBeginAnew(t *testing.T) { // P10.2
	s := with(t, some()...)
	s.Undo(0)
	if !space.Same(s, space.New()) || len(s.Keys()) != 0 {
		t.Errorf("all undone: %q", s.Keys())
	}
	if s.Put("b", 1, "again", false) != api.OK || s.Num("b") != 1 || !slices.Equal(s.Keys(), []string{"b"}) {
		t.Error("Put behind Undo")
	}
	s.Clean(1)
	if s.Put("b", 2, "", true) != api.OK || s.Num("b") != 2 {
		t.Error("Put behind Clean")
	}
}

func TestCleanKeepsKeysThatAreGone(t *testing.T) { // P10.2
	s := with(t, put{"a", 1, "x", false}, put{"a", 2, "", true})
	s.Clean(9)
	if v, ok := s.Read("a", 2); !ok || v != (ver(2, 2, "", true)) || !slices.Equal(s.Keys(), []string{"a"}) {
		t.Errorf("gone, and clean: %v, %v", v, ok)
	}
}

func TestSame(t *testing.T) { // P10.2
	a := put{"a", 1, "x", false}
	all := []*space.Space{
		space.New(),
		with(t, a),
		with(t, put{"b", 1, "x", false}),
		with(t, put{"a", 2, "x", false}),
		with(t, put{"a", 1, "y", false}),
		with(t, put{"a", 1, "", false}),
		with(t, put{"a", 1, "", true}),
		with(t, a, put{"a", 2, "x", false}),
		with(t, a, put{"b", 1, "x", false}),
		with(t, a, put{"c", 1, "x", false}),
		with(t, some()...),
	}
	clean := with(t, put{"a", 1, "", false}, put{"a", 2, "x", false})
	clean.Clean(2) // its version is another one's but for its number
	all = append(all, clean)
	for i, s := range all {
		for k, r := range all {
			if got := space.Same(s, r); got != (i == k) {
				t.Errorf("Same of %d and %d: %v", i, k, got)
			}
		}
	}
	other := with(t, put{"b", 3, "", true}, a)
	if one := with(t, a, put{"b", 3, "", true}); !space.Same(one, other) || !space.Same(other, one) {
		t.Error("the same under the same keys, but not Same")
	}
}

func TestNoSpace(t *testing.T) { // P10.1, P10.2, P1
	var none *space.Space
	for _, p := range append(some(), put{"A", 1, "x", false}, put{"a", -1, "X", true}) {
		if e := none.Put(p.key, p.at, p.val, p.gone); e != api.ErrNil {
			t.Errorf("Put(%v) into no space: %d", p, e)
		}
	}
	for _, n := range places() {
		none.Undo(n)
		none.Clean(n)
	}
	check(t, none, nil)
	if !space.Same(none, nil) || !space.Same(none, space.New()) || !space.Same(space.New(), none) {
		t.Error("no space is not as one that has nothing")
	}
	if s := with(t, some()...); space.Same(s, none) || space.Same(none, s) {
		t.Error("no space is as one that has something")
	}
}

func TestSpaceMadeByHand(t *testing.T) { // P1
	s := new(space.Space)
	s.Undo(1)
	s.Clean(1)
	check(t, s, nil)
	if !space.Same(s, space.New()) || !space.Same(space.New(), s) {
		t.Error("one made by hand is not as a new one")
	}
	if s.Put("A", 1, "x", false) != api.ErrArg || s.Put("a", 0, "x", false) != api.ErrArg || s.Put("a", 1, "x", false) != api.OK {
		t.Error("Put into one made by hand")
	}
	check(t, s, model(put{"a", 1, "x", false}))
}

func TestAnswersAreTheirOwn(t *testing.T) { // rule 4
	s := with(t, some()...)
	keys, dirty := s.Keys(), s.Dirty(0)
	for i := range keys {
		keys[i], dirty[i] = "?", "!"
	}
	_, _ = append(keys, "?"), append(dirty, "!")
	if keys[0] != "?" || dirty[0] != "!" {
		t.Error("two answers share memory")
	}
	check(t, s, model(some()...))
}

func TestKeysDoNotTouch(t *testing.T) { // P10.3
	s := with(t, some()...)
	before := map[string][]version{}
	for _, key := range append(s.Keys(), "fresh") {
		before[key] = seen(s, key)
	}
	for _, p := range []put{{"b", 20, "n", false}, {"b", 21, "", true}, {"fresh", 1, "", false}, {"b", 21, "x", false}, {"A", 30, "x", false}} {
		s.Put(p.key, p.at, p.val, p.gone)
		for key, l := range before {
			if key != "b" && key != "fresh" && !slices.Equal(seen(s, key), l) {
				t.Errorf("Put(%v) changed %q", p, key)
			}
		}
	}
	if got := seen(s, "fresh"); slices.Equal(got, before["fresh"]) {
		t.Error("nothing under the fresh key")
	}
}

// seen is what is read under the key at each place, and its last number.
func seen(s *space.Space, key string) []version {
	l := []version{{Num: s.Num(key)}}
	for _, n := range places() {
		v, _ := s.Read(key, n)
		l = append(l, v)
	}
	return l
}

func TestAnyCalls(t *testing.T) { // P10.1, P10.2, P10.3
	rnd := rand.New(rand.NewSource(10))
	names := []string{"a", "b", "aa", "_", "7", "B", ""}
	for range 200 {
		s, m := space.New(), map[string]object.Object{}
		for at := range 40 {
			n := rnd.Intn(9)
			switch rnd.Intn(7) {
			case 0:
				s.Undo(n)
				for key, o := range m {
					m[key] = o.Undo(n)
				}
			case 1:
				s.Clean(n)
				for key, o := range m {
					m[key] = o.Clean(n)
				}
			default:
				p := put{names[rnd.Intn(len(names))], at%12 - rnd.Intn(3), "v", rnd.Intn(5) == 0}
				o, want := m[p.key].Put(p.at, p.val, p.gone)
				if p.key == "B" || p.key == "" {
					want = api.ErrArg
				}
				if want == api.OK {
					m[p.key] = o
				}
				if e := s.Put(p.key, p.at, p.val, p.gone); e != want {
					t.Fatalf("Put(%v) = %d, want %d", p, e, want)
				}
			}
			maps.DeleteFunc(m, func(_ string, o object.Object) bool { return len(o.L) == 0 })
			check(t, s, m)
		}
	}
}
