package fail_test

import (
	"errors"
	"fmt"
	"strings"
	"testing"

	"indenture/api"
	"indenture/fail"
)

// wild is an error that panics at whatever it is asked.
type wild struct{ what string }

func (w *wild) Error() string        { panic(w.what) }
func (w *wild) Unwrap() error        { panic(w.what) }
func (w *wild) Is(target error) bool { panic(w.what) }
func (w *wild) As(target any) bool   { panic(w.what) }

// hollow is an error that is none: to ask it is to ask nil.
type hollow struct{ error }

// odd says of itself, by methods of its own, what it is, whatever it wraps.
type odd struct{ as *fail.Code }

func (o odd) Error() string { return "odd" }

func (o odd) Is(target error) bool { return o.as.Is(target) }

func (o odd) As(target any) bool {
	p, ok := target.(**fail.Code)
	if ok {
		*p = o.as
	}
	return ok
}

// TestNilsInChains has nil *Codes and nil *Versions within other errors.
func TestNilsInChains(t *testing.T) {
	var none *fail.Code
	var nov *fail.Version
	for _, c := range []chain{
		{what: "a nil *Code", err: none},
		{what: "a nil *Version", err: nov},
		{what: "a nil *Code, wrapped", err: fmt.Errorf("a: %w", none)},
		{what: "a nil *Version, wrapped", err: fmt.Errorf("a: %w", nov)},
		{what: "both, joined", err: errors.Join(none, nov)},
		{what: "a nil *Code as a cause", err: fail.Of(api.ErrDown, none), codes: []api.Errno{api.ErrDown}},
		{what: "a nil *Version as a cause", err: fail.Of(api.ErrDown, nov), codes: []api.Errno{api.ErrDown}},
	} {
		checkChain(t, c)
	}
	// A nil *Code is no reason not to look on: errors.Is does.
	if !fail.Is(errors.Join(none, &fail.Code{E: api.ErrBusy}), api.ErrBusy) {
		t.Error("P15.1: behind a nil *Code nothing is found")
	}
}

// TestOthersPanic has errors in the chain that panic when they are asked.
func TestOthersPanic(t *testing.T) {
	for k, bad := range []error{&wild{what: "wild"}, (*wild)(nil), hollow{}, lazy{}} {
		checkKind(t, chain{what: fmt.Sprintf("bad %d", k), err: bad})
		checkIs(t, chain{what: fmt.Sprintf("bad %d", k), err: bad})
		checkVersions(t, chain{what: fmt.Sprintf("bad %d", k), err: bad})
		within := &fail.Code{E: api.ErrDown, Cause: bad}
		checkKind(t, chain{what: fmt.Sprintf("within a *Code: bad %d", k), err: within, codes: []api.Errno{api.ErrDown}})
		checkIs(t, chain{what: fmt.Sprintf("within a *Code: bad %d", k), err: within, codes: []api.Errno{api.ErrDown}})
		checkVersions(t, chain{what: fmt.Sprintf("within a *Code: bad %d", k), err: within})
		if within.Error() == "" || within.Unwrap() != bad || within.Is(bad) {
			t.Errorf("P15.1: bad %d: text, cause or Is", k)
		}
		outer := &fail.Code{E: api.ErrBusy, Cause: within}
		if !strings.Contains(outer.Error(), within.Error()) {
			t.Errorf("P15.1: bad %d: %q is not in %q", k, within.Error(), outer.Error())
		}
	}
}

// TestOthersSayWhatTheyAre has an error with methods of its own, by which errors.Is and errors.As go.
func TestOthersSayWhatTheyAre(t *testing.T) {
	o := odd{as: &fail.Code{E: api.ErrRange}}
	for _, c := range []chain{
		{what: "odd", err: o, codes: []api.Errno{api.ErrRange}},
		{what: "odd, wrapped", err: fmt.Errorf("a: %w", o), codes: []api.Errno{api.ErrRange}},
		{what: "odd, as a cause", err: fail.Of(api.ErrFull, o), codes: []api.Errno{api.ErrFull, api.ErrRange}},
	} {
		checkChain(t, c)
	}
	if (&fail.Code{E: api.ErrRange}).Is(o) {
		t.Error("P15.1: an odd error is taken for a *Code")
	}
}

// rings are *Codes that are their own cause, by themselves or through others, and some ahead of such ones.
func rings() []chain {
	self := &fail.Code{E: api.ErrDown}
	self.Cause = self
	a, b, c := &fail.Code{E: api.ErrBusy}, &fail.Code{E: api.ErrFull}, &fail.Code{E: api.ErrNone}
	a.Cause, b.Cause, c.Cause = b, c, a
	ahead := &fail.Code{E: api.ErrMore, Cause: &fail.Code{E: api.ErrLarge, Cause: b}}
	return []chain{
		{what: "one", err: self, codes: []api.Errno{api.ErrDown}},
		{what: "three", err: a, codes: []api.Errno{api.ErrBusy, api.ErrFull, api.ErrNone}},
		{what: "ahead of three", err: ahead, codes: []api.Errno{api.ErrMore, api.ErrLarge, api.ErrFull, api.ErrNone, api.ErrBusy}},
	}
}

// TestRings asks *Codes that come back to themselves: each call ends.
func TestRings(t *testing.T) {
	for _, c := range rings() {
		checkChain(t, c)
		checkText(t, c.what, codeOf(t, c.err))
		checkText(t, c.what+", its cause", codeOf(t, errors.Unwrap(c.err)))
	}
}

// TestLongChains has chains so long that a text worked out anew for each part would take hours.
func TestLongChains(t *testing.T) {
	const long = 200_000
	base := errors.New("the base of it")
	err, v := base, &fail.Version{Want: 8, Have: -9}
	versioned := error(v)
	for k := range long {
		err = fail.Of(api.Errno(1+k%14), err)
		versioned = fail.Of(api.Errno(1+k%14), versioned)
	}
	text := err.Error()
	if !strings.Contains(text, base.Error()) || !strings.Contains(text, errors.Unwrap(err).Error()) {
		t.Error("P15.1: a long chain's text is without its cause's")
	}
	if fail.Kind(err) != api.Errno(1+(long-1)%14) || !errors.Is(err, base) {
		t.Error("P15.1: a long chain's kind or base")
	}
	for e := api.OK; e <= api.ErrOther; e++ {
		if fail.Is(err, e) != (e >= 1 && e <= 14) {
			t.Errorf("P15.1: a long chain: Is of %d", e)
		}
	}
	if want, have, ok := fail.Versions(versioned); !ok || want != 8 || have != -9 {
		t.Errorf("P15.1: a long chain: %d, %d, %v", want, have, ok)
	}
	if want, have, ok := fail.Versions(err); ok || want != 0 || have != 0 {
		t.Errorf("P15.1: a long chain without a *Version: %d, %d, %v", want, have, ok)
	}
}
