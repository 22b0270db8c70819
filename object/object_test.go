package object_test

import (
	"math"
	"math/rand"
	"slices"
	"strings"
	"testing"

	"sautoir/api"
	"sautoir/object"
)

type (
	version = object.Version
	obj     = object.Object
)

func of(l ...version) obj { return obj{L: l} }

// example is the chapter's: x at 3, gone at 5.
func example() obj {
	return of(version{3, 1, "x", false}, version{5, 2, "", true})
}

// rights are objects that are right.
func rights() []obj {
	return []obj{
		{}, of(),
		of(version{1, 1, "", false}),
		of(version{1, 1, "", true}),
		of(version{math.MaxInt, 1, "v", false}),
		of(version{7, 41, "elder_ones_were_cleaned", false}, version{8, 42, "", true}, version{100, 43, "", true}),
		of(version{1, math.MaxUint64, "z", false}),
		of(version{1, math.MaxUint64 - 1, "y", false}, version{math.MaxInt, math.MaxUint64, "z", false}),
		of(version{1, 1, strings.Repeat("v", 64), false}),
		of(version{2, 1 << 63, "_", false}, version{3, 1<<63 + 1, "_", false}),
		example(),
	}
}

// wrongs are objects that are not right, each for one reason.
func wrongs() []obj {
	return []obj{
		of(version{}),
		of(version{0, 1, "", false}),
		of(version{-1, 1, "", false}),
		of(version{math.MinInt, 1, "", false}),
		of(version{1, 0, "", false}),
		of(version{1, 0, "", false}, version{2, 1, "", false}),
		of(version{1, 1, "X", false}),
		of(version{1, 1, strings.Repeat("v", 65), false}),
		of(version{1, 1, "x", true}),
		of(version{1, 1, "\xff", true}),
		of(version{2, 1, "", false}, version{2, 2, "", false}),
		of(version{2, 1, "", false}, version{1, 2, "", false}),
		of(version{1, 1, "", false}, version{2, 1, "", false}),
		of(version{1, 1, "", false}, version{2, 3, "", false}),
		of(version{1, 2, "", false}, version{2, 1, "", false}),
		of(version{1, math.MaxUint64, "", false}, version{2, 0, "", false}),
		of(version{1, math.MaxUint64, "", false}, version{2, 1, "", false}),
		of(version{1, 1, "", false}, version{2, 2, "", false}, version{3, 3, "x", true}),
		of(version{1, 1, "", false}, version{2, 2, "-", false}, version{3, 3, "", false}),
		of(version{1, 1, "", false}, version{3, 2, "", false}, version{3, 3, "", false}, version{4, 4, "", false}),
	}
}

// places are those at which objects are asked, the greatest and the least ones with them.
func places() []int {
	return []int{math.MinInt, -3, -1, 0, 1, 2, 3, 4, 5, 6, 7, 8, 9, 99, 100, 101, 1 << 32, math.MaxInt - 1, math.MaxInt}
}

// tall is an object with a version at each third place, from 3 on.
func tall(n int) obj {
	var o obj
	for i := range n {
		o.L = append(o.L, version{At: 3 * (i + 1), Num: uint64(i + 5), Val: string(rune('a' + i%26))})
	}
	return o
}

func TestRight(t *testing.T) { // P9.1
	for _, o := range append(rights(), tall(400)) {
		if !object.Right(o) {
			t.Errorf("%v is not right", o)
		}
	}
	for _, o := range wrongs() {
		if object.Right(o) {
			t.Errorf("%v is right", o)
		}
	}
}

func TestPut(t *testing.T) { // P9.1
	for _, o := range append(rights(), tall(50)) {
		for _, at := range places() {
			got, e := o.Put(at, "v_1", false)
			last, num := 0, uint64(0)
			if n := len(o.L); n > 0 {
				last, num = o.L[n-1].At, o.L[n-1].Num
			}
			want, wantE := obj{}, api.ErrArg
			if at > last && num == math.MaxUint64 {
				wantE = api.ErrFull
			} else if at > last {
				want, wantE = of(append(slices.Clone(o.L), version{at, num + 1, "v_1", false})...), api.OK
			}
			if e != wantE || !slices.Equal(got.L, want.L) {
				t.Errorf("%v: Put at %d: %v, %d; want %v, %d", o, at, got, e, want, wantE)
			}
		}
	}
}

func TestPutOfValues(t *testing.T) { // P9.1
	for _, c := range []struct {
		val  string
		gone bool
		want api.Errno
	}{
		{"", false, api.OK},
		{"", true, api.OK},
		{"x", false, api.OK},
		{"x", true, api.ErrArg},
		{strings.Repeat("9", 64), false, api.OK},
		{strings.Repeat("9", 65), false, api.ErrArg},
		{strings.Repeat("9", 64), true, api.ErrArg},
		{"X", false, api.ErrArg},
		{"X", true, api.ErrArg},
		{"\x00", false, api.ErrArg},
		{"a b", false, api.ErrArg},
	} {
		got, e := example().Put(6, c.val, c.gone)
		var want []version
		if c.want == api.OK {
			want = append(example().L, version{6, 3, c.val, c.gone})
		}
		if e != c.want || !slices.Equal(got.L, want) {
			t.Errorf("Put of %q, gone %v: %v, %d", c.val, c.gone, got, e)
		}
	}
}

func TestPutNamesTheFirstError(t *testing.T) { // P9.1, P1
	full := of(version{4, math.MaxUint64, "", false})
	for _, e := range []api.Errno{
		errOf(full.Put(4, "x", false)), errOf(full.Put(0, "x", false)), errOf(full.Put(5, "X", false)), errOf(full.Put(5, "x", true)),
	} {
		if e != api.ErrArg {
			t.Errorf("Put of what may not be, and no greater number: %d", e)
		}
	}
	if o, e := full.Put(5, "x", false); e != api.ErrFull || o.L != nil {
		t.Errorf("no greater number: %v, %d", o, e)
	}
}

func errOf(_ obj, e api.Errno) api.Errno { return e }

func TestRead(t *testing.T) { // P9.2
	for _, o := range append(rights(), tall(40)) {
		for _, n := range places() {
			var want version
			var there bool
			for _, v := range o.L {
				if v.At <= n {
					want, there = v, true
				}
			}
			if got, ok := o.Read(n); got != want || ok != there {
				t.Errorf("%v: Read(%d) = %v, %v; want %v, %v", o, n, got, ok, want, there)
			}
		}
	}
}

func TestReadExample(t *testing.T) { // P9.2
	if v, ok := example().Read(4); !ok || v != (version{3, 1, "x", false}) {
		t.Errorf("at 4: %v, %v", v, ok)
	}
	if v, ok := example().Read(5); !ok || v != (version{5, 2, "", true}) {
		t.Errorf("at 5: %v, %v", v, ok)
	}
}

func TestLast(t *testing.T) { // P9.2
	for _, o := range append(rights(), tall(40)) {
		var want version
		for _, v := range o.L {
			want = v
		}
		if got := o.Last(); got != want {
			t.Errorf("%v: Last() = %v", o, got)
		}
	}
}

func TestDirtyUndoClean(t *testing.T) { // P9.2
	for _, o := range append(rights(), tall(40)) {
		for _, n := range places() {
			var till, behind, since []version
			for _, v := range o.L {
				if v.At > n {
					behind = append(behind, v)
					continue
				}
				till = append(till, v)
				since = []version{v}
			}
			if got := o.Dirty(n); got != (len(behind) > 0) {
				t.Errorf("%v: Dirty(%d) = %v", o, n, got)
			}
			if got := o.Undo(n); !slices.Equal(got.L, till) {
				t.Errorf("%v: Undo(%d) = %v", o, n, got)
			}
			if got := o.Clean(n); !slices.Equal(got.L, append(since, behind...)) {
				t.Errorf("%v: Clean(%d) = %v", o, n, got)
			}
		}
	}
}

func TestWhatIsNotRight(t *testing.T) { // P9.1, P9.2, P1
	for _, o := range wrongs() {
		for _, n := range places() {
			if got, e := o.Put(n, "x", false); got.L != nil || e != api.ErrArg {
				t.Errorf("%v: Put at %d: %v, %d", o, n, got, e)
			}
			if v, ok := o.Read(n); ok || v != (version{}) {
				t.Errorf("%v: Read(%d) = %v, %v", o, n, v, ok)
			}
			if o.Dirty(n) || len(o.Undo(n).L) != 0 || len(o.Clean(n).L) != 0 {
				t.Errorf("%v at %d: dirty %v, undone %v, clean %v", o, n, o.Dirty(n), o.Undo(n), o.Clean(n))
			}
		}
		if v := o.Last(); v != (version{}) {
			t.Errorf("%v: Last() = %v", o, v)
		}
	}
}

func TestSame(t *testing.T) { // P9.2
	all := append(append(rights()[1:], wrongs()...), tall(5), tall(6))
	for i, a := range all {
		for k, b := range all {
			b.L = slices.Clone(b.L)
			if got := object.Same(a, b); got != (i == k) {
				t.Errorf("Same(%v, %v) = %v", a, b, got)
			}
		}
	}
	if !object.Same(obj{}, of()) || !object.Same(obj{L: []version{}}, obj{}) {
		t.Error("two without versions are not the same")
	}
	x := version{1, 1, "", false}
	for _, y := range []version{{2, 1, "", false}, {1, 2, "", false}, {1, 1, "y", false}, {1, 1, "", true}} {
		if object.Same(of(x), of(y)) || object.Same(of(y), of(x)) || !object.Same(of(y), of(y)) {
			t.Errorf("%v and %v", x, y)
		}
	}
}

func TestUndoBehindPut(t *testing.T) { // P9.3
	for _, o := range append(rights(), tall(40)) {
		last := o.Last().At
		for _, at := range places() {
			p, e := o.Put(at, "new", false)
			if e != api.OK {
				continue
			}
			if !object.Same(p.Undo(at-1), o) || !object.Same(p.Undo(last), o) || object.Same(p.Undo(at), o) {
				t.Errorf("%v: Put at %d, and Undo", o, at)
			}
		}
	}
}

func TestReadBehindClean(t *testing.T) { // P9.3
	for _, o := range append(rights(), tall(40)) {
		for _, n := range places() {
			clean := o.Clean(n)
			if !object.Right(clean) || clean.Last() != o.Last() || !object.Same(clean.Clean(n), clean) {
				t.Errorf("%v: Clean(%d) = %v", o, n, clean)
			}
			for _, m := range places() {
				if m < n {
					continue
				}
				v, ok := o.Read(m)
				if w, there := clean.Read(m); v != w || ok != there || o.Dirty(m) != clean.Dirty(m) {
					t.Errorf("%v, clean at %d: Read(%d) = %v, %v", o, n, m, w, there)
				}
			}
		}
	}
}

func TestAnswersAreTheirOwn(t *testing.T) { // rules 4 and 5
	o := obj{L: make([]version, 2, 20)}
	copy(o.L, example().L)
	behind := o.L[:3]
	put, _ := o.Put(6, "y", false)
	other, _ := o.Put(7, "z", false)
	undo, clean := o.Undo(5), o.Clean(4)
	if behind[2] != (version{}) {
		t.Fatalf("Put wrote behind what it was given: %v", behind)
	}
	answers := [][]version{put.L, other.L, undo.L, clean.L}
	for i := range o.L {
		o.L[i] = version{At: 99}
	}
	for i, l := range answers {
		if l[0] != example().L[0] {
			t.Errorf("answer %d shares memory with its object: %v", i, l)
		}
		_ = append(l, version{At: 98})
		for k := range l {
			l[k] = version{At: 97 - i}
		}
	}
	for i, l := range answers {
		if l[0].At != 97-i || o.L[0].At != 99 {
			t.Errorf("answer %d shares memory with another one: %v", i, l)
		}
	}
}

func TestUndoLeavesRoomToNobody(t *testing.T) { // rule 4
	o := tall(10)
	less := o.Undo(9)
	_ = append(less.L, version{At: 77})
	if !object.Same(o, tall(10)) {
		t.Errorf("what was appended to an answer is seen: %v", o)
	}
}

// TestAnyCalls holds an object against a list that is gone through from its beginning.
func TestAnyCalls(t *testing.T) { // P9.1, P9.2
	rnd := rand.New(rand.NewSource(9))
	for range 300 {
		var o obj
		var model []version
		num, last := uint64(0), 0
		for range 60 {
			n := rnd.Intn(80)
			switch rnd.Intn(6) {
			case 0:
				o = o.Clean(n)
				for len(model) > 1 && model[1].At <= n {
					model = model[1:]
				}
			case 1:
				o = o.Undo(max(n, last-5))
				for len(model) > 0 && model[len(model)-1].At > max(n, last-5) {
					model = model[:len(model)-1]
				}
			default:
				at, gone := last-1+rnd.Intn(5), rnd.Intn(3) == 0
				p, e := o.Put(at, "", gone)
				if ok := at >= 1 && at > last; ok != (e == api.OK) {
					t.Fatalf("%v: Put at %d: %d", o, at, e)
				}
				if e == api.OK {
					o, model = p, append(slices.Clone(model), version{at, num + 1, "", gone})
				}
			}
			num, last = 0, 0
			if len(model) > 0 {
				num, last = model[len(model)-1].Num, model[len(model)-1].At
			}
			if !object.Right(o) || !slices.Equal(o.L, model) {
				t.Fatalf("%v, want %v", o, model)
			}
		}
	}
}
