package fail_test

import (
	"errors"
	"fmt"
	"math"
	"slices"
	"testing"

	"indenture/api"
	"indenture/fail"
)

// chain is an error with what stands in its chain, in the order in which errors.As goes through it.
type chain struct {
	what     string
	err      error
	codes    []api.Errno
	versions []fail.Version
}

// chains are put together by hand, so that what stands in them is known without a walk through them.
func chains() []chain {
	base := errors.New("the base of it")
	down := &fail.Code{E: api.ErrDown}
	busy := &fail.Code{E: api.ErrBusy, Cause: base}
	first, second := &fail.Version{Want: 3, Have: -8}, &fail.Version{Want: 5, Have: 6}
	both := &fail.Code{E: api.ErrVersion, Cause: &fail.Code{E: api.ErrForked, Cause: first}}
	one, other := fail.Version{Want: 3, Have: -8}, fail.Version{Want: 5, Have: 6}
	return []chain{
		{"nil", nil, nil, nil},
		{"plain", base, nil, nil},
		{"plain, wrapped", fmt.Errorf("outside: %w", base), nil, nil},
		{"plain, joined", errors.Join(base, silent{}), nil, nil},
		{"a *Version", first, nil, []fail.Version{one}},
		{"two *Versions", errors.Join(second, first), nil, []fail.Version{other, one}},
		{"a *Version, wrapped", fmt.Errorf("a: %w", fmt.Errorf("b: %w", first)), nil, []fail.Version{one}},
		{"a *Code", down, []api.Errno{api.ErrDown}, nil},
		{"a *Code of OK", &fail.Code{}, []api.Errno{api.OK}, nil},
		{"a *Code of no name", &fail.Code{E: -7}, []api.Errno{-7}, nil},
		{"a *Code of a *Code", both, []api.Errno{api.ErrVersion, api.ErrForked}, []fail.Version{one}},
		{"through one %w", fmt.Errorf("a: %w", busy), []api.Errno{api.ErrBusy}, nil},
		{"through two %w", fmt.Errorf("a: %w", fmt.Errorf("b: %w", both)), []api.Errno{api.ErrVersion, api.ErrForked}, []fail.Version{one}},
		{"between *Codes", fail.Of(api.ErrFull, fmt.Errorf("a: %w", busy)), []api.Errno{api.ErrFull, api.ErrBusy}, nil},
		{"two in one text", fmt.Errorf("%w and %w", busy, down), []api.Errno{api.ErrBusy, api.ErrDown}, nil},
		{"joined, the first", errors.Join(down, base), []api.Errno{api.ErrDown}, nil},
		{"joined, the second", errors.Join(base, down), []api.Errno{api.ErrDown}, nil},
		{"joined, the third", errors.Join(base, silent{}, both), []api.Errno{api.ErrVersion, api.ErrForked}, []fail.Version{one}},
		{"joined, all", errors.Join(both, busy, down), []api.Errno{api.ErrVersion, api.ErrForked, api.ErrBusy, api.ErrDown}, []fail.Version{one}},
		{"joined, a *Version ahead", errors.Join(second, both), []api.Errno{api.ErrVersion, api.ErrForked}, []fail.Version{other, one}},
		{"joined, a *Version behind", errors.Join(both, second), []api.Errno{api.ErrVersion, api.ErrForked}, []fail.Version{one, other}},
		{"joined in joined", errors.Join(errors.Join(base, busy), down), []api.Errno{api.ErrBusy, api.ErrDown}, nil},
		{"the joined as a cause", fail.Of(api.ErrOther, errors.Join(base, fmt.Errorf("b: %w", both))), []api.Errno{api.ErrOther, api.ErrVersion, api.ErrForked}, []fail.Version{one}},
		{"lazy", lazy{behind: lazy{behind: both}}, []api.Errno{api.ErrVersion, api.ErrForked}, []fail.Version{one}},
		{"many", many{base, nil, many{}, many{busy}, second}, []api.Errno{api.ErrBusy}, []fail.Version{other}},
		{"many, of nothing", many{nil, nil}, nil, nil},
		{"twice the same", errors.Join(down, busy, down), []api.Errno{api.ErrDown, api.ErrBusy, api.ErrDown}, nil},
		{"the same within another of its E", &fail.Code{E: api.ErrDown, Cause: down}, []api.Errno{api.ErrDown, api.ErrDown}, nil},
	}
}

// checkKind holds Kind against what is known of the chain.
func checkKind(t *testing.T, c chain) {
	t.Helper()
	want := api.ErrForm
	if c.err == nil {
		want = api.OK
	} else if len(c.codes) > 0 {
		want = c.codes[0]
	}
	if got := fail.Kind(c.err); got != want {
		t.Errorf("P15.1: %s: Kind is %d, want %d", c.what, got, want)
	}
}

// checkIs holds Is of all numbers against what is known of the chain.
func checkIs(t *testing.T, c chain) {
	t.Helper()
	for _, e := range append(errnos(), -7) {
		if got := fail.Is(c.err, e); got != slices.Contains(c.codes, e) {
			t.Errorf("P15.1: %s: Is of %d: %v", c.what, e, got)
		}
	}
}

// checkVersions holds Versions against what is known of the chain.
func checkVersions(t *testing.T, c chain) {
	t.Helper()
	var first fail.Version
	if len(c.versions) > 0 {
		first = c.versions[0]
	}
	want, have, ok := fail.Versions(c.err)
	if ok != (len(c.versions) > 0) || want != first.Want || have != first.Have {
		t.Errorf("P15.1: %s: Versions are %d, %d, %v, want %v", c.what, want, have, ok, c.versions)
	}
}

// checkChain holds all calls, twice, against what is known of the chain.
func checkChain(t *testing.T, c chain) {
	t.Helper()
	for range 2 {
		checkKind(t, c)
		checkIs(t, c)
		checkVersions(t, c)
	}
}

func TestChains(t *testing.T) {
	for _, c := range chains() {
		checkChain(t, c)
	}
}

// TestChainsWithinCodes puts a *Code of each number ahead of each chain.
func TestChainsWithinCodes(t *testing.T) {
	for _, e := range errnos() {
		if e == api.OK {
			continue
		}
		for _, c := range chains() {
			c.what = fmt.Sprintf("%s, within %d", c.what, e)
			c.err = fail.Of(e, c.err)
			c.codes = slices.Concat([]api.Errno{e}, c.codes)
			checkChain(t, c)
		}
	}
}

// TestChainsWithinOthers puts errors of others around each chain.
func TestChainsWithinOthers(t *testing.T) {
	for _, c := range chains() {
		if c.err == nil {
			continue
		}
		name, inner := c.what, c.err
		for k, err := range []error{
			fmt.Errorf("a: %w", inner),
			fmt.Errorf("a: %w", fmt.Errorf("b: %w", inner)),
			errors.Join(inner),
			errors.Join(nil, silent{}, inner, nil),
			lazy{behind: inner},
			many{nil, inner},
		} {
			c.what, c.err = fmt.Sprintf("%s, within the other %d", name, k), err
			checkChain(t, c)
		}
		// A text alone wraps nothing.
		checkChain(t, chain{what: name + ", as a text", err: errors.New("a: " + inner.Error())})
		checkChain(t, chain{what: name + ", by another verb", err: fmt.Errorf("a: %v", inner)})
	}
}

// TestJoinedPlaces puts two chains one behind the other: the first one's count.
func TestJoinedPlaces(t *testing.T) {
	for _, a := range chains() {
		for _, b := range chains() {
			if a.err == nil && b.err == nil {
				continue
			}
			checkChain(t, chain{
				what:     a.what + " ahead of " + b.what,
				err:      errors.Join(a.err, b.err),
				codes:    slices.Concat(a.codes, b.codes),
				versions: slices.Concat(a.versions, b.versions),
			})
		}
	}
}

func TestVersionsAtTheEdges(t *testing.T) {
	edges := []int64{0, 1, -1, 2, -2, 1 << 40, math.MaxInt32, math.MinInt32, math.MaxInt64, math.MaxInt64 - 1, math.MinInt64, math.MinInt64 + 1}
	for _, want := range edges {
		for _, have := range edges {
			v := fail.Version{Want: want, Have: have}
			checkChain(t, chain{what: "at an edge", err: &v, versions: []fail.Version{v}})
			checkChain(t, chain{
				what:     "at an edge, wrapped",
				err:      errors.Join(silent{}, fmt.Errorf("a: %w", fail.Of(api.ErrVersion, &v)), &fail.Version{Want: 9, Have: 9}),
				codes:    []api.Errno{api.ErrVersion},
				versions: []fail.Version{v, {Want: 9, Have: 9}},
			})
		}
	}
}

// TestOfAsIs asks through errors.Is and errors.As, as those would who don't ask by this package.
func TestOfAsIs(t *testing.T) {
	base, v := errors.New("the base of it"), &fail.Version{Want: 1, Have: 2}
	err := fmt.Errorf("outside: %w", fail.Of(api.ErrVersion, errors.Join(v, fail.Of(api.ErrDown, base))))
	if !errors.Is(err, base) || !errors.Is(err, v) || errors.Is(err, errors.New("the base of it")) {
		t.Error("P15.1: what is in the chain isn't found by errors.Is")
	}
	for _, e := range errnos() {
		if got := errors.Is(err, &fail.Code{E: e}); got != (e == api.ErrVersion || e == api.ErrDown) {
			t.Errorf("P15.1: errors.Is of %d: %v", e, got)
		}
	}
	var c *fail.Code
	var got *fail.Version
	if !errors.As(err, &c) || c.E != api.ErrVersion || !errors.As(err, &got) || got != v {
		t.Error("P15.1: what is in the chain isn't found by errors.As")
	}
}
