package fault_test

import (
	"errors"
	"fmt"
	"slices"
	"strconv"
	"strings"
	"testing"

	"sautoir/api"
	"sautoir/fault"
)

// errnos are all numbers of api that are no OK, and some that have no name there.
func errnos() []api.Errno {
	out := []api.Errno{-1, 14, 1 << 40, -1 << 63}
	for e := api.ErrArg; e <= api.ErrOld; e++ {
		out = append(out, e)
	}
	return out
}

// rough is an error that can't be held against another one, and wraps none.
type rough []int

func (r rough) Error() string { return "rough" }

// counted is an error that is equal to no number, but as great as one.
type counted int

func (c counted) Error() string { return "counted" }

func TestNew(t *testing.T) { // P3.1
	if err := fault.New("a", api.OK); err != nil {
		t.Errorf("New of OK: %v", err)
	}
	for _, e := range errnos() {
		for _, where := range []string{"", "a", "a>b", "\xff\x00"} {
			f, ok := fault.New(where, e).(*fault.Fault)
			if !ok || f.Where != where || f.Err != error(e) || f.Unwrap() != error(e) {
				t.Errorf("New(%q, %d) = %#v", where, e, f)
			}
		}
	}
}

func TestIn(t *testing.T) { // P3.1
	if err := fault.In("a", nil); err != nil {
		t.Errorf("In of nil: %v", err)
	}
	var none *fault.Fault
	for _, err := range []error{api.ErrArg, api.OK, fault.New("b", api.ErrSum), errors.New("x"), none, counted(3)} {
		f, ok := fault.In("a", err).(*fault.Fault)
		if !ok || f.Where != "a" || f.Err != err || f.Unwrap() != err {
			t.Errorf("In(a, %#v) = %#v", err, f)
		}
	}
	if f, ok := fault.In("a", rough{1}).(*fault.Fault); !ok || f.Where != "a" || f.Unwrap().Error() != "rough" {
		t.Error("In of an error that can't be compared")
	}
}

func TestInLeavesWhatItWraps(t *testing.T) { // P3.1
	b := fault.New("b", api.ErrSum)
	fault.In("a", b)
	if fault.Path(b) != "b" || fault.Code(b) != api.ErrSum {
		t.Error("the inner fault was changed")
	}
	if one, other := fault.In("a", b), fault.In("a", b); one == other {
		t.Error("two faults are one")
	}
}

func TestError(t *testing.T) { // P3.1
	for _, c := range []struct {
		err  error
		path string
	}{
		{fault.New("a", api.ErrForm), "a"},
		{fault.New("", api.ErrForm), ""},
		{fault.In("a", fault.In("b", fault.New("c", api.ErrFull))), "a>b>c"},
		{fault.In("a", errors.New("x")), "a"},
		{&fault.Fault{Where: "a"}, "a"},
		{&fault.Fault{}, ""},
	} {
		if got, want := c.err.Error(), c.path+">"+api.ErrForm.Error(); got != want {
			t.Errorf("Error = %q, want %q", got, want)
		}
	}
}

func TestCode(t *testing.T) { // P3.2
	if fault.Code(nil) != api.OK || fault.Code(api.OK) != api.OK || fault.Code(fault.In("a", api.OK)) != api.OK {
		t.Error("Code of nil, OK")
	}
	for _, e := range errnos() {
		for _, err := range []error{
			e,
			fault.New("a", e),
			fault.In("a", e),
			fault.In("a", fault.In("b", fault.New("c", e))),
			fmt.Errorf("x %w", e),
			fmt.Errorf("x %w", fault.New("a", e)),
			fault.In("a", fmt.Errorf("x %w", fault.New("b", e))),
			errors.Join(errors.New("x"), fault.New("a", e), api.ErrLost),
			&fault.Fault{Err: &fault.Fault{Err: e}},
		} {
			if got := fault.Code(err); got != e {
				t.Errorf("Code(%#v) = %d, want %d", err, got, e)
			}
		}
	}
}

func TestCodeOfNone(t *testing.T) { // P3.2
	var none *fault.Fault
	for _, err := range []error{errors.New("x"), counted(9), rough{9}, none, &fault.Fault{}, &fault.Fault{Where: "a", Err: none}, fault.In("a", errors.New("x")), fault.In("a", rough(nil)), fmt.Errorf("x %w", none)} {
		if got := fault.Code(err); got != api.ErrForm {
			t.Errorf("Code(%#v) = %d", err, got)
		}
		for _, e := range append(errnos(), api.OK) {
			if fault.Is(err, e) {
				t.Errorf("%#v is %d", err, e)
			}
		}
	}
}

func TestPath(t *testing.T) { // P3.2
	var none *fault.Fault
	ab := fault.In("a", fault.New("b", api.ErrForm))
	for _, c := range []struct {
		err  error
		want string
	}{
		{nil, ""},
		{api.ErrForm, ""},
		{errors.New("x"), ""},
		{rough{1}, ""},
		{none, ""},
		{fault.New("a", api.ErrArg), "a"},
		{ab, "a>b"},
		{fault.In("c", ab), "c>a>b"},
		{fault.In("", fault.New("x", api.ErrArg)), ">x"},
		{fault.In("x", fault.New("", api.ErrArg)), "x>"},
		{fault.In("", fault.In("", fault.New("", api.ErrArg))), ">>"},
		{fault.In("a>b", fault.New("c", api.ErrArg)), "a>b>c"},
		{fault.In("a", api.OK), "a"},
		{fault.In("a", errors.New("x")), "a"},
		{fault.In("a", none), "a"},
		{fault.In("a", fmt.Errorf("x %w", ab)), "a>a>b"},
		{fmt.Errorf("x %w", ab), ""},
		{&fault.Fault{Where: "a"}, "a"},
	} {
		if got := fault.Path(c.err); got != c.want {
			t.Errorf("Path(%#v) = %q, want %q", c.err, got, c.want)
		}
	}
}

func TestIs(t *testing.T) { // P3.2
	for _, e := range append(errnos(), api.OK) {
		if fault.Is(nil, e) {
			t.Errorf("nil is %d", e)
		}
		for _, err := range []error{e, fault.In("a", e), fault.In("a", fault.In("b", e)), fmt.Errorf("x %w", fault.In("a", e)), fault.In("a", errors.Join(errors.New("x"), e))} {
			for _, other := range append(errnos(), api.OK) {
				if got := fault.Is(err, other); got != (e == other) {
					t.Errorf("Is(%#v, %d) = %v", err, other, got)
				}
			}
		}
	}
	// Code tells the first number alone; Is finds each.
	if both := fault.In("a", errors.Join(api.ErrSum, fault.New("b", api.ErrOld))); !fault.Is(both, api.ErrSum) || !fault.Is(both, api.ErrOld) || fault.Code(both) != api.ErrSum {
		t.Error("two numbers")
	}
}

func TestHoweverDeep(t *testing.T) { // P3.3
	for _, deep := range []int{1, 2, 3, 10, 1000, 1 << 16} {
		err, places := fault.New("0", api.ErrLost), []string{"0"}
		for i := 1; i < deep; i++ {
			err, places = fault.In(strconv.Itoa(i), err), append(places, strconv.Itoa(i))
		}
		if fault.Code(err) != api.ErrLost || !fault.Is(err, api.ErrLost) || fault.Is(err, api.ErrOld) {
			t.Errorf("the number of a fault %d deep", deep)
		}
		slices.Reverse(places)
		want := strings.Join(places, ">")
		if fault.Path(err) != want || err.Error() != want+">"+api.ErrLost.Error() {
			t.Errorf("the path of a fault %d deep", deep)
		}
	}
}

func TestNilFault(t *testing.T) { // P1
	var none *fault.Fault
	if none.Error() != "" || none.Unwrap() != nil {
		t.Error("the methods of no fault")
	}
}

// rings are faults, made by hand, that lead round to themselves at once, or behind some others.
func rings() []error {
	var out []error
	for ahead := range 4 {
		for around := 1; around < 6; around++ {
			last := &fault.Fault{Where: "last"}
			var err error = last
			for range around - 1 {
				err = fault.In("around", err)
			}
			last.Err = err
			for range ahead {
				err = fault.In("ahead", err)
			}
			out = append(out, err, fmt.Errorf("x %w", err))
		}
	}
	through := &fault.Fault{}
	through.Err = fmt.Errorf("x %w", through)
	return append(out, through)
}

func TestRingsEnd(t *testing.T) { // P1
	for i, err := range rings() {
		if fault.Code(err) != api.ErrForm || fault.Path(err) != "" || fault.Is(err, api.ErrForm) {
			t.Errorf("ring %d: code %d, path %q", i, fault.Code(err), fault.Path(err))
		}
		if f, ok := err.(*fault.Fault); ok && f.Error() != ">"+api.ErrForm.Error() {
			t.Errorf("ring %d: %q", i, f.Error())
		}
	}
}
