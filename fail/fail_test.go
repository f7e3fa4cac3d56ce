package fail_test

import (
	"errors"
	"fmt"
	"math"
	"strings"
	"testing"

	"indenture/api"
	"indenture/fail"
)

// silent is an error whose text is empty.
type silent struct{}

func (silent) Error() string { return "" }

// many wraps several errors, and can't be held against another one by ==.
type many []error

func (m many) Error() string   { return "many of them" }
func (m many) Unwrap() []error { return m }

// lazy wraps one error, and asks for its text each time.
type lazy struct{ behind error }

func (l lazy) Error() string { return "lazy: " + l.behind.Error() }
func (l lazy) Unwrap() error { return l.behind }

// errnos are all numbers of errors, and some that api doesn't name.
func errnos() []api.Errno {
	list := []api.Errno{-1, 16, 1000, math.MinInt64, math.MaxInt64}
	for e := api.OK; e <= api.ErrOther; e++ {
		list = append(list, e)
	}
	return list
}

// causes are errors of all kinds that can be compared by ==, and nil.
func causes() []error {
	base := errors.New("the base of it")
	inner := &fail.Code{E: api.ErrDown, Cause: base}
	version := &fail.Version{Want: 3, Have: -8}
	return []error{
		nil,
		base,
		silent{},
		version,
		inner,
		&fail.Code{E: api.ErrBusy},
		&fail.Code{},
		&fail.Code{E: api.ErrFull, Cause: silent{}},
		&fail.Code{E: api.ErrVersion, Cause: &fail.Code{E: api.ErrForked, Cause: version}},
		(*fail.Code)(nil),
		(*fail.Version)(nil),
		&fail.Code{E: api.ErrForm, Cause: (*fail.Code)(nil)},
		fmt.Errorf("outside: %w", inner),
		fmt.Errorf("%w and %w", version, inner),
		errors.Join(base, inner),
		lazy{behind: inner},
	}
}

// codeOf is err as a *Code that is not nil.
func codeOf(t *testing.T, err error) *fail.Code {
	t.Helper()
	c, ok := err.(*fail.Code)
	if !ok || c == nil {
		t.Fatalf("P15.1: %T is no *Code", err)
	}
	return c
}

func TestOfOK(t *testing.T) {
	for k, cause := range causes() {
		if err := fail.Of(api.OK, cause); err != nil {
			t.Errorf("P15.1: cause %d: Of OK is %T, not nil", k, err)
		}
	}
	if err := fail.Of(api.OK, many{nil}); err != nil {
		t.Errorf("P15.1: many: Of OK is %T, not nil", err)
	}
}

func TestOf(t *testing.T) {
	for _, e := range errnos() {
		if e == api.OK {
			continue
		}
		for k, cause := range causes() {
			c := codeOf(t, fail.Of(e, cause))
			if c.E != e || c.Cause != cause {
				t.Errorf("P15.1: Of(%d, cause %d) is of %d, with %v", e, k, c.E, c.Cause)
			}
		}
	}
}

// TestOfMany has a cause that == would panic at.
func TestOfMany(t *testing.T) {
	inner := errors.New("one of many")
	c := codeOf(t, fail.Of(api.ErrLarge, many{inner, nil}))
	m, ok := c.Cause.(many)
	if c.E != api.ErrLarge || !ok || len(m) != 2 || m[0] != inner || m[1] != nil {
		t.Errorf("P15.1: Of many is of %d, with %v", c.E, c.Cause)
	}
	if !errors.Is(c, inner) {
		t.Error("P15.1: what is among many isn't found")
	}
}

// checkText holds an error's text against its cause's.
func checkText(t *testing.T, what string, c *fail.Code) {
	t.Helper()
	text := c.Error()
	if text == "" {
		t.Errorf("P15.1: %s: no text", what)
	}
	if c.Cause != nil && !strings.Contains(text, c.Cause.Error()) {
		t.Errorf("P15.1: %s: %q, without the cause's %q", what, text, c.Cause.Error())
	}
	if again := c.Error(); again != text {
		t.Errorf("P0.5: %s: %q, then %q", what, text, again)
	}
}

func TestError(t *testing.T) {
	for _, e := range errnos() {
		for k, cause := range causes() {
			inner := &fail.Code{E: e, Cause: cause}
			checkText(t, fmt.Sprintf("%d of cause %d", e, k), inner)
			outer := &fail.Code{E: api.ErrTimeout, Cause: inner}
			checkText(t, fmt.Sprintf("a *Code of %d of cause %d", e, k), outer)
			checkText(t, fmt.Sprintf("lazy of %d of cause %d", e, k), &fail.Code{E: e, Cause: lazy{behind: outer}})
		}
	}
	checkText(t, "many", &fail.Code{E: api.ErrForm, Cause: many{}})
}

// TestErrorHasAllTexts looks for the texts of all in a chain: none is cut off at the first or second.
func TestErrorHasAllTexts(t *testing.T) {
	first, second := errors.New("quite the first"), &fail.Version{Want: math.MinInt64, Have: math.MaxInt64}
	chain := fail.Of(api.ErrMore, fail.Of(api.ErrRange, fmt.Errorf("between: %w", fail.Of(api.ErrNone, errors.Join(first, second)))))
	for _, part := range []string{"quite the first", "between: ", second.Error()} {
		if !strings.Contains(chain.Error(), part) {
			t.Errorf("P15.1: %q is not in %q", part, chain.Error())
		}
	}
}

func TestErrorOfAVersion(t *testing.T) {
	for _, v := range []fail.Version{{}, {Want: 3, Have: -8}, {Want: math.MinInt64, Have: math.MaxInt64}, {Want: -1, Have: math.MinInt64}} {
		text := v.Error()
		if text == "" {
			t.Errorf("P15.1: %v: no text", v)
		}
		if again := v.Error(); again != text {
			t.Errorf("P0.5: %v: %q, then %q", v, text, again)
		}
	}
}

func TestUnwrap(t *testing.T) {
	for k, cause := range causes() {
		c := &fail.Code{E: api.ErrBehind, Cause: cause}
		if c.Unwrap() != cause || errors.Unwrap(c) != cause {
			t.Errorf("P15.1: cause %d: Unwrap is %v", k, c.Unwrap())
		}
	}
}

// TestNil asks what is nil within an error, and nil itself.
func TestNil(t *testing.T) {
	var c *fail.Code
	var v *fail.Version
	if got := c.Error(); got != "" {
		t.Errorf("P15.1: a nil *Code's text is %q", got)
	}
	if got := c.Unwrap(); got != nil {
		t.Errorf("P15.1: a nil *Code's Unwrap is %T", got)
	}
	if got := v.Error(); got != "" {
		t.Errorf("P15.1: a nil *Version's text is %q", got)
	}
	targets := append(causes(), &fail.Code{E: api.OK}, many{})
	for k, target := range targets {
		if c.Is(target) {
			t.Errorf("P15.1: a nil *Code is target %d", k)
		}
	}
}

func TestIsOfACode(t *testing.T) {
	for _, e := range errnos() {
		c := &fail.Code{E: e, Cause: errors.New("of its own")}
		for _, other := range errnos() {
			if got := c.Is(&fail.Code{E: other, Cause: silent{}}); got != (e == other) {
				t.Errorf("P15.1: a *Code of %d: Is of one of %d: %v", e, other, got)
			}
		}
		if !c.Is(c) {
			t.Errorf("P15.1: a *Code of %d isn't itself", e)
		}
	}
}

// TestIsOfACodeOnly hands in targets that are no *Code, and some that hold one of the same E, or are held.
func TestIsOfACodeOnly(t *testing.T) {
	for _, e := range errnos() {
		same := &fail.Code{E: e}
		targets := []error{
			nil,
			(*fail.Code)(nil),
			&fail.Version{},
			&fail.Version{Want: int64(e), Have: int64(e)},
			(*fail.Version)(nil),
			errors.New("error 1"),
			silent{},
			lazy{behind: same},
			fmt.Errorf("outside: %w", same),
			fmt.Errorf("%w and %w", same, same),
			errors.Join(same),
			many{same},
			&fail.Code{E: e + 1, Cause: same},
		}
		for k, target := range targets {
			for _, cause := range []error{nil, target, same} {
				c := &fail.Code{E: e, Cause: cause}
				if c.Is(target) {
					t.Errorf("P15.1: a *Code of %d is target %d", e, k)
				}
			}
		}
	}
}
