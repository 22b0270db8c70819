package learn_test

import (
	"math"
	"math/rand"
	"slices"
	"strings"
	"testing"

	"sautoir/api"
	"sautoir/learn"
)

// noSlots are numbers of which there is no slot.
func noSlots() []int {
	return []int{-1, -2, math.MinInt, api.MaxLog, api.MaxLog + 1, 1 << 20, 1 << 32, math.MaxInt}
}

// texts answers n values, of which two next to one another are not the same; the empty one is among them.
func texts(n int) []string {
	var l []string
	for i := range n {
		l = append(l, strings.Repeat("v", i%3))
	}
	return l
}

// made answers a learner for whose slots from 0 on those values were chosen.
func made(t *testing.T, vals ...string) *learn.Learner {
	t.Helper()
	l := learn.New()
	for slot, val := range vals {
		take(t, l, slot, val)
	}
	return l
}

// take has val chosen for the slot.
func take(t *testing.T, l *learn.Learner, slot int, val string) {
	t.Helper()
	if e := l.Learn(slot, val); e != api.OK {
		t.Fatalf("Learn(%d, %q) = %d", slot, val, e)
	}
}

// expect holds all that l tells against what was chosen.
func expect(t *testing.T, name string, l *learn.Learner, chosen map[int]string) {
	t.Helper()
	prefix, top := 0, 0
	for _, there := chosen[prefix]; there; _, there = chosen[prefix] {
		prefix++
	}
	for slot := range chosen {
		top = max(top, slot+1)
	}
	if l.Prefix() != prefix || l.Top() != top {
		t.Fatalf("%s: Prefix %d, Top %d; want %d, %d", name, l.Prefix(), l.Top(), prefix, top)
	}
	for slot := range api.MaxLog {
		want, there := chosen[slot]
		if got, ok := l.Val(slot); got != want || ok != there {
			t.Fatalf("%s: Val(%d) = %q, %v; want %q, %v", name, slot, got, ok, want, there)
		}
	}
	for _, slot := range noSlots() {
		if got, ok := l.Val(slot); got != "" || ok {
			t.Fatalf("%s: Val(%d) = %q, %v", name, slot, got, ok)
		}
	}
	expectFrom(t, name, l, prefix, chosen)
}

// expectFrom holds what From answers, at the edges and beyond them.
func expectFrom(t *testing.T, name string, l *learn.Learner, prefix int, chosen map[int]string) {
	t.Helper()
	for _, slot := range append(noSlots(), 0, 1, 2, prefix-2, prefix-1, prefix, prefix+1, l.Top()-1, api.MaxLog-1) {
		for _, most := range []int{math.MinInt, -1, 0, 1, 2, 8, prefix, api.MaxLog, math.MaxInt - 1, math.MaxInt} {
			var want []string
			for at := slot; slot >= 0 && at < prefix && len(want) < most; at++ {
				want = append(want, chosen[at])
			}
			if got := l.From(slot, most); !slices.Equal(got, want) {
				t.Fatalf("%s: From(%d, %d) = %q, not %q", name, slot, most, got, want)
			}
		}
	}
}

func TestNil(t *testing.T) { // P1
	var l *learn.Learner
	expect(t, "none", l, nil)
	for _, slot := range append(noSlots(), 0, 1, api.MaxLog-1) {
		for _, val := range []string{"", "v", strings.Repeat("v", api.MaxVal+1)} {
			if e := l.Learn(slot, val); e != api.ErrNil {
				t.Errorf("Learn(%d, %q) = %d", slot, val, e)
			}
		}
	}
}

func TestNew(t *testing.T) { // P19.1
	if learn.New() == nil {
		t.Fatal("no learner")
	}
	expect(t, "a new one", learn.New(), nil)
	one, other := made(t, "a"), learn.New()
	expect(t, "one", one, map[int]string{0: "a"})
	expect(t, "another one", other, nil)
}

func TestByHand(t *testing.T) { // P1
	l := &learn.Learner{}
	expect(t, "made by hand", l, nil)
	take(t, l, 3, "v")
	expect(t, "made by hand", l, map[int]string{3: "v"})
}

func TestExample(t *testing.T) { // P19.2
	l := made(t, "a")
	take(t, l, 2, "c")
	if l.Prefix() != 1 || l.Top() != 3 {
		t.Errorf("the chapter's example: %d, %d", l.Prefix(), l.Top())
	}
}

func TestLearn(t *testing.T) { // P19.1
	for _, slot := range []int{0, 1, 2, 200, api.MaxLog - 2, api.MaxLog - 1} {
		for _, val := range []string{"", "v", "\x00\xff", strings.Repeat("v", api.MaxVal-1), strings.Repeat("v", api.MaxVal)} {
			l := learn.New()
			take(t, l, slot, val)
			expect(t, "one slot", l, map[int]string{slot: val})
			if e := l.Learn(slot, val); e != api.ErrThere {
				t.Errorf("Learn(%d, %q) again = %d", slot, val, e)
			}
			for _, other := range []string{"w", val[:len(val)/2] + "w"} {
				if e := l.Learn(slot, other); e != api.ErrState {
					t.Errorf("Learn(%d, %q) behind %q = %d", slot, other, val, e)
				}
			}
			expect(t, "one slot, asked again", l, map[int]string{slot: val})
		}
	}
}

// The empty value is one like others: chosen for a slot, it is not told from nothing by its length.
func TestEmptyValue(t *testing.T) { // P19.1, P19.2
	l := made(t, "", "")
	if e := l.Learn(0, "v"); e != api.ErrState {
		t.Error("another value in place of the empty one", e)
	}
	take(t, l, 3, "v")
	if e := l.Learn(3, ""); e != api.ErrState {
		t.Error("the empty value in place of another one", e)
	}
	expect(t, "empty values", l, map[int]string{0: "", 1: "", 3: "v"})
}

func TestLearnRefused(t *testing.T) { // P19.1, P1
	chosen := map[int]string{0: "a", 1: "", 5: strings.Repeat("v", api.MaxVal), api.MaxLog - 1: "z"}
	l := learn.New()
	for slot, val := range chosen {
		take(t, l, slot, val)
	}
	long := []string{strings.Repeat("v", api.MaxVal+1), strings.Repeat("v", 1<<20)}
	for _, slot := range noSlots() {
		for _, val := range append(long, "", "a") {
			if e := l.Learn(slot, val); e != api.ErrArg {
				t.Errorf("Learn(%d, %d bytes) = %d", slot, len(val), e)
			}
		}
	}
	for _, slot := range []int{0, 1, 2, 5, api.MaxLog - 1} {
		for _, val := range long {
			if e := l.Learn(slot, val); e != api.ErrArg {
				t.Errorf("Learn(%d, %d bytes) = %d", slot, len(val), e)
			}
		}
	}
	expect(t, "behind refused ones", l, chosen)
}

func TestPrefixGoesOn(t *testing.T) { // P19.2
	l := learn.New()
	chosen := map[int]string{}
	for _, slot := range []int{4, 1, 0, 3, 2, 6, 5} {
		chosen[slot] = strings.Repeat("v", slot)
		take(t, l, slot, chosen[slot])
		expect(t, "on the way", l, chosen)
	}
}

func TestFull(t *testing.T) { // P19.2
	vals := texts(api.MaxLog)
	l := made(t, vals...)
	if l.Prefix() != api.MaxLog || l.Top() != api.MaxLog || !slices.Equal(l.From(0, math.MaxInt), vals) {
		t.Error("all slots", l.Prefix(), l.Top())
	}
	chosen := map[int]string{}
	for slot, val := range vals {
		chosen[slot] = val
	}
	expect(t, "all slots", l, chosen)
	if e := l.Learn(api.MaxLog, "v"); e != api.ErrArg {
		t.Error("one slot more", e)
	}
}

// What stands behind a gap is told by Val alone.
func TestFromBehindGap(t *testing.T) { // P19.2
	l := made(t, "a", "b")
	take(t, l, 3, "d")
	take(t, l, 4, "e")
	for _, slot := range []int{2, 3, 4, 5} {
		if got := l.From(slot, 9); len(got) != 0 {
			t.Errorf("From(%d, 9) = %q", slot, got)
		}
	}
	take(t, l, 2, "c")
	for slot, want := range []string{"ab", "bc", "cd", "de", "e", ""} {
		if got := l.From(slot, 2); strings.Join(got, "") != want {
			t.Errorf("From(%d, 2) = %q, not %q", slot, got, want)
		}
	}
}

func TestFromIsACopy(t *testing.T) { // P19.2, rule 4
	l := made(t, "a", "b", "c", "d")
	got, other := l.From(1, 2), l.From(0, 4)
	got[0] = "x"
	_ = append(got, "y")
	if strings.Join(other, "") != "abcd" {
		t.Errorf("two answers share memory: %q", other)
	}
	expect(t, "behind writing into an answer", l, map[int]string{0: "a", 1: "b", 2: "c", 3: "d"})
}

func TestChosenStays(t *testing.T) { // P19.1, P19.2, P19.3
	r := rand.New(rand.NewSource(19))
	for range 40 {
		l, chosen := learn.New(), map[int]string{}
		slots := 1 + r.Intn(12)
		for range 60 {
			slot, val, prefix := r.Intn(slots), texts(3)[r.Intn(3)], l.Prefix()
			want := api.OK
			if old, there := chosen[slot]; there && old == val {
				want = api.ErrThere
			} else if there {
				want = api.ErrState
			} else {
				chosen[slot] = val
			}
			if e := l.Learn(slot, val); e != want {
				t.Fatalf("Learn(%d, %q) = %d; want %d", slot, val, e, want)
			}
			if l.Prefix() < prefix {
				t.Fatalf("Prefix was %d, and is %d", prefix, l.Prefix())
			}
			expect(t, "a row of calls", l, chosen)
		}
	}
}
