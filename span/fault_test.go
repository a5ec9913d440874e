package span_test

import (
	"errors"
	"math"
	"testing"

	"winnow/api"
	"winnow/span"
)

// outer hands an error on, as a layer above may.
type outer struct{ inner error }

func (o outer) Error() string { return "outer" }
func (o outer) Unwrap() error { return o.inner }

func wantError(t *testing.T, s string, f api.Fault, want span.Error, told string) {
	t.Helper()
	err := text(s).Error(f)
	got, ok := err.(*span.Error)
	if !ok || *got != want || err.Error() != told {
		t.Errorf("%q: Error(%v): %#v; want %#v, told %q", s, f, err, want, told)
	}
}

func TestP105Error(t *testing.T) {
	for _, c := range []struct {
		at, line, col int
		told          string
	}{
		{0, 1, 1, "line 1, column 1: token"},
		{1, 1, 2, "line 1, column 2: token"},
		{4, 2, 3, "line 2, column 3: token"},
		{5, 2, 3, "line 2, column 3: token"},
		{6, 2, 4, "line 2, column 4: token"},
		{7, 3, 1, "line 3, column 1: token"},
		{8, 0, 0, "token"},
		{-1, 0, 0, "token"},
		{math.MinInt, 0, 0, "token"},
		{math.MaxInt, 0, 0, "token"},
	} {
		f := api.Fault{Err: api.ErrToken, At: c.at}
		wantError(t, sample, f, span.Error{Fault: f, Line: c.line, Col: c.col}, c.told)
	}
	f := api.Fault{Err: api.ErrCaps, At: -1}
	wantError(t, sample, f, span.Error{Fault: f}, "caps")
	f = api.Fault{Err: api.ErrLong}
	wantError(t, "", f, span.Error{Fault: f, Line: 1, Col: 1}, "line 1, column 1: long")
	f = api.Fault{Err: -7, At: 1}
	wantError(t, "", f, span.Error{Fault: f}, "error")
}

func TestP105NoError(t *testing.T) {
	for _, at := range []int{0, 4, 8, -1} {
		if err := text(sample).Error(api.Fault{Err: api.OK, At: at}); err != nil {
			t.Errorf("Error of no fault at %d: %#v", at, err)
		}
	}
}

func TestP106Told(t *testing.T) {
	for _, c := range []struct {
		e    span.Error
		told string
	}{
		{span.Error{Fault: api.Fault{Err: api.ErrLong}, Line: -3, Col: 12}, "line -3, column 12: long"},
		{span.Error{Fault: api.Fault{Err: api.ErrLong}, Line: 1, Col: -4}, "line 1, column -4: long"},
		{span.Error{Fault: api.Fault{Err: api.ErrLong}, Line: 1}, "line 1, column 0: long"},
		{span.Error{Fault: api.Fault{Err: api.ErrLong, At: 9}, Col: 5}, "long"},
		{span.Error{Fault: api.Fault{Err: api.ErrDead}, Line: 1234567890, Col: 100}, "line 1234567890, column 100: dead"},
		{span.Error{Fault: api.Fault{Err: 1000}, Line: 1, Col: 2}, "line 1, column 2: error"},
		{span.Error{}, "ok"},
	} {
		if got := c.e.Error(); got != c.told {
			t.Errorf("%#v tells %q; want %q", c.e, got, c.told)
		}
	}
}

func TestP106Found(t *testing.T) {
	err := text(sample).Error(api.Fault{Err: api.ErrToken, At: 4})
	for _, e := range []error{err, outer{err}, outer{outer{err}}} {
		var whole *span.Error
		var number api.Errno
		if !errors.Is(e, api.ErrToken) || errors.Is(e, api.ErrNest) || errors.Is(e, api.OK) {
			t.Errorf("%v: errors.Is finds another Err", e)
		}
		if !errors.As(e, &whole) || error(whole) != err || whole.Err != api.ErrToken || whole.At != 4 {
			t.Errorf("%v: errors.As finds %#v", e, whole)
		}
		if !errors.As(e, &number) || number != api.ErrToken {
			t.Errorf("%v: errors.As finds %v", e, number)
		}
	}
	if u := errors.Unwrap(err); u != error(api.ErrToken) {
		t.Errorf("Unwrap: %#v", u)
	}
	if u := (&span.Error{}).Unwrap(); u != error(api.OK) {
		t.Errorf("Unwrap of no fault: %#v", u)
	}
}

func TestP7ErrorsApart(t *testing.T) {
	x, f := text(sample), api.Fault{Err: api.ErrToken, At: 4}
	var a, b *span.Error
	if !errors.As(x.Error(f), &a) || !errors.As(x.Error(f), &b) || a == b {
		t.Error("two calls answer one object")
	}
}
