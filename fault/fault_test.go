package fault_test

import (
	"errors"
	"fmt"
	"math"
	"strings"
	"testing"

	"silt/api"
	"silt/fault"
)

// other is an error of another package: it wraps, but is no fault.
type other struct{ err error }

func (o other) Error() string { return "other" }

func (o other) Unwrap() error { return o.err }

// list is an error that can't be compared.
type list []int

func (l list) Error() string { return "list" }

// asks panics, or says yes to all, whenever it is asked for what it wraps.
type asks struct{ panics bool }

func (a *asks) answer() bool {
	if a.panics {
		panic("asked")
	}
	return true
}

func (a *asks) Error() string   { a.answer(); return "asks" }
func (a *asks) Unwrap() error   { a.answer(); return nil }
func (a *asks) As(any) bool     { return a.answer() }
func (a *asks) Is(e error) bool { return a.answer() && e == api.ErrBusy }

var numbers = []api.Errno{math.MinInt, -12, -1, 0, 1, 2, 9, 10, 11, 12, 13, 14, 15, 16, 17, 18, 19, 20, 21, 22, 23, 24, 100, math.MaxInt}

// isOnly tells of each number whether err is it, which only want may be.
func isOnly(t *testing.T, name string, err error, want api.Errno) {
	t.Helper()
	for _, e := range append(numbers, want) {
		if got := fault.Is(err, e); got != (e == want) {
			t.Errorf("%s: Is %d: %v", name, int(e), got)
		}
	}
}

// P1.1: New.
func TestNew(t *testing.T) {
	for _, e := range numbers {
		err := fault.New(e, "what")
		if (err == nil) != (e == api.OK) {
			t.Errorf("New %d: %v", int(e), err)
		}
		if got := fault.Of(err); got != e {
			t.Errorf("Of %d: %d", int(e), int(got))
		}
		isOnly(t, "New", err, e)
	}
	if fault.New(api.OK, "") != nil || fault.New(api.ErrArg, "") == nil {
		t.Error("the text is not what makes a fault")
	}
}

// P1.1: Wrap.
func TestWrap(t *testing.T) {
	if fault.Wrap(nil, "what") != nil || fault.Wrap(nil, "") != nil || fault.Wrap(fault.New(api.OK, "none"), "what") != nil {
		t.Error("a fault about nil")
	}
	one := fault.New(api.ErrPage, "one")
	err := fault.Wrap(one, "two")
	if err == nil || !errors.Is(err, one) || errors.Unwrap(err) != one {
		t.Error("not about what was wrapped:", err)
	}
	if fault.Of(one) != api.ErrPage || fault.Text(one) != "one: error 16" || fault.Deep(one) != 0 {
		t.Error("what was wrapped is another now:", fault.Text(one))
	}
}

// P1.1: a fault is an error of the library's kind.
func TestFaultsAreErrors(t *testing.T) {
	err := fault.Wrap(fault.New(api.ErrForm, "one"), "two")
	var e api.Errno
	if !errors.As(err, &e) || e != api.ErrForm || !errors.Is(err, api.ErrForm) || errors.Is(err, api.ErrArg) {
		t.Error("the library finds another number:", e)
	}
	if err.Error() != fault.Text(err) {
		t.Error("Error tells another text:", err.Error())
	}
}

// P1.1: what wraps no number, nil, OK.
func TestWithoutNumber(t *testing.T) {
	if fault.Of(nil) != api.OK {
		t.Error("Of nil:", fault.Of(nil))
	}
	isOnly(t, "nil", nil, api.OK)
	for _, err := range []error{errors.New("another"), errors.New(""), other{}, list{1}, other{list{1}}, errors.New("error 14"), errors.Join(list{}, list{}), fault.Wrap(errors.New("another"), "put"), fault.Wrap(list{1}, ""), other{fault.Wrap(other{}, "put")}} {
		if got := fault.Of(err); got != api.ErrArg {
			t.Errorf("Of %v: %d", err, int(got))
		}
		for _, e := range numbers {
			if fault.Is(err, e) {
				t.Errorf("%v is %d", err, int(e))
			}
		}
	}
}

// P1.1: however deep, and whatever is between.
func TestNumberIsFoundDeep(t *testing.T) {
	one := fault.New(api.ErrSession, "one")
	for _, err := range []error{api.ErrSession, one, other{one}, other{api.ErrSession}, fault.Wrap(api.ErrSession, "two"), fault.Wrap(other{other{one}}, "two"), other{fault.Wrap(other{one}, "two")}, fmt.Errorf("three: %w", fault.Wrap(one, "two")), fault.Wrap(errors.Join(errors.New("another"), one), "two")} {
		if got := fault.Of(err); got != api.ErrSession {
			t.Errorf("Of %v: %d", err, int(got))
		}
		isOnly(t, "deep", err, api.ErrSession)
	}
	both := errors.Join(fault.New(api.ErrLen, "a"), fault.New(api.ErrPin, "b"))
	if fault.Of(both) != api.ErrLen || !fault.Is(both, api.ErrLen) || !fault.Is(both, api.ErrPin) || fault.Is(both, api.ErrArg) {
		t.Error("two numbers:", fault.Of(both))
	}
}

// P1.2: Text and Deep, in one table.
func TestText(t *testing.T) {
	one := fault.New(api.ErrSpace, "full")
	two := fault.Wrap(one, "put")
	for _, x := range []struct {
		err  error
		text string
		deep int
	}{
		{nil, "", 0},
		{fault.New(api.OK, "none"), "", 0},
		{one, "full: error 14", 0},
		{two, "put: full: error 14", 1},
		{fault.Wrap(two, "get"), "get: put: full: error 14", 2},
		{fault.Wrap(one, "get"), "get: full: error 14", 1},
		{fault.New(api.ErrArg, ""), ": error 1", 0},
		{fault.Wrap(fault.New(api.ErrArg, ""), ""), ": : error 1", 1},
		{fault.Wrap(fault.Wrap(fault.New(9, ": "), ""), "error 3"), "error 3: : : : error 9", 2},
		{fault.New(10, "\x00\xff\n"), "\x00\xff\n: error 10", 0},
		{fault.New(math.MaxInt, "most"), "most: error 9223372036854775807", 0},
		{fault.New(-12, "below"), "below: error -12", 0},
		{api.ErrDead, "error 22", 0},
		{fault.Wrap(api.ErrDead, "step"), "step: error 22", 1},
		{errors.New("another"), "another: error 1", 0},
		{fault.Wrap(errors.New("another"), "put"), "put: another: error 1", 1},
		{fault.Wrap(other{fault.Wrap(other{two}, "a")}, "b"), "b: a: put: full: error 14", 3},
		{other{two}, "put: full: error 14", 1},
	} {
		if got := fault.Text(x.err); got != x.text {
			t.Errorf("Text %q, not %q", got, x.text)
		}
		if got := fault.Deep(x.err); got != x.deep {
			t.Errorf("Deep of %q: %d, not %d", x.text, got, x.deep)
		}
	}
}

// The chapter's example.
func TestExample(t *testing.T) {
	if got := fault.Text(fault.Wrap(fault.New(14, "full"), "put")); got != "put: full: error 14" {
		t.Error(got)
	}
}

// P1.2, P1.3: many Wraps.
func TestManyWraps(t *testing.T) {
	const many = 100000
	err := fault.New(api.ErrDevice, "x")
	for i := 1; i <= many; i++ {
		err = fault.Wrap(err, "y")
		if i < 50 && fault.Deep(err) != i {
			t.Errorf("Deep %d: %d", i, fault.Deep(err))
		}
	}
	if fault.Deep(err) != many || fault.Of(err) != api.ErrDevice || fault.Text(err) != strings.Repeat("y: ", many)+"x: error 12" {
		t.Error(fault.Deep(err), fault.Of(err))
	}
	isOnly(t, "many", err, api.ErrDevice)
}

// P1.3: what is wrapped keeps its number.
func TestWrapKeepsNumber(t *testing.T) {
	errs := []error{errors.New("another"), list{}, other{}, other{fault.New(api.ErrOrder, "")}, errors.Join(api.ErrLen, api.ErrPin)}
	for _, e := range numbers {
		errs = append(errs, e) // OK too: as an error it is one
		if e != api.OK {
			errs = append(errs, fault.New(e, "what"))
		}
	}
	for _, err := range errs {
		for i, over := 0, err; i < 4; i++ {
			over = fault.Wrap(over, strings.Repeat("w", i))
			if fault.Of(over) != fault.Of(err) {
				t.Errorf("%v: %d, not %d", err, int(fault.Of(over)), int(fault.Of(err)))
			}
			for _, e := range numbers {
				if fault.Is(over, e) != fault.Is(err, e) {
					t.Errorf("%v: Is %d: %v", err, int(e), fault.Is(over, e))
				}
			}
		}
	}
}

// Wrong inputs: errors whose own methods panic, or claim to hold what they don't.
func TestNoCallPanics(t *testing.T) {
	var none *asks
	for _, err := range []error{none, &asks{panics: true}, fault.Wrap(none, "put"), fault.Wrap(&asks{panics: true}, "put")} {
		if fault.Of(err) != api.ErrArg || fault.Is(err, api.ErrArg) || fault.Is(err, api.ErrBusy) || fault.Is(err, api.OK) {
			t.Error("a number out of a panic")
		}
		if got := fault.Text(err); got != ": error 1" && got != "put: : error 1" {
			t.Error("a text out of a panic:", got)
		}
		if d := fault.Deep(err); d > 1 {
			t.Error("deep by a panic:", d)
		}
	}
	yes := &asks{}
	if fault.Deep(yes) != 0 || fault.Deep(fault.Wrap(yes, "put")) != 1 || !strings.HasPrefix(fault.Text(fault.Wrap(yes, "put")), "put: ") {
		t.Error("a fault that is none was gone through")
	}
}

// One call's answer hangs on its arguments alone.
func TestAnswersAreApart(t *testing.T) {
	a, b := fault.New(api.ErrPin, "a"), fault.New(api.ErrPin, "a")
	if a == b || errors.Is(a, b) {
		t.Error("two faults are one")
	}
	fault.Wrap(a, "more")
	if fault.Text(a) != "a: error 19" || fault.Text(b) != "a: error 19" {
		t.Error(fault.Text(a), fault.Text(b))
	}
}
