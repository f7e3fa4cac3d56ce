package fail_test

import (
	"errors"
	"fmt"
	"slices"
	"sync"
	"testing"

	"indenture/api"
	"indenture/fail"
)

// askAll makes every call that can be made of err.
func askAll(err error) {
	fail.Kind(err)
	for _, e := range errnos() {
		fail.Is(err, e)
		fail.Of(e, err)
	}
	fail.Versions(err)
	c := &fail.Code{E: api.ErrDown, Cause: err}
	_, _ = c.Error(), c.Unwrap()
	c.Is(err)
}

// TestHandedInStays holds what was handed in against what it was.
func TestHandedInStays(t *testing.T) {
	base := errors.New("the base of it")
	v := &fail.Version{Want: 3, Have: -8}
	c := &fail.Code{E: api.ErrVersion, Cause: v}
	list := many{base, nil, c}[:2]
	outer := &fail.Code{E: api.ErrFull, Cause: list}
	for _, err := range []error{base, v, c, list, outer, errors.Join(outer, c), fmt.Errorf("%w, %w", v, outer)} {
		askAll(err)
		for _, target := range []error{base, v, c, list, outer} {
			c.Is(target)
			outer.Is(target)
		}
	}
	whole := list[:3]
	if *v != (fail.Version{Want: 3, Have: -8}) || c.E != api.ErrVersion || c.Cause != error(v) || outer.E != api.ErrFull {
		t.Error("P0.3: what was handed in was changed")
	}
	if !slices.Equal(whole, many{base, nil, c}) {
		t.Error("P0.3: a list that was handed in was changed")
	}
}

// TestAnswersAreApart changes what Of answered: no other answer, and nothing that was handed in, changes.
func TestAnswersAreApart(t *testing.T) {
	base := errors.New("the base of it")
	first := codeOf(t, fail.Of(api.ErrDown, base))
	second := codeOf(t, fail.Of(api.ErrDown, base))
	outer := codeOf(t, fail.Of(api.ErrBusy, first))
	if first == second {
		t.Fatal("P0.3: two answers are one")
	}
	first.E, first.Cause = api.ErrRange, nil
	if second.E != api.ErrDown || second.Cause != base {
		t.Error("P0.3: an answer changed with another one")
	}
	third := codeOf(t, fail.Of(api.ErrDown, base))
	if third.E != api.ErrDown || third.Cause != base {
		t.Error("P0.3: a later answer changed with an earlier one")
	}
	outer.E = api.ErrForked
	outer.Cause = nil
	if first.E != api.ErrRange || first.Cause != nil {
		t.Error("P0.3: what was handed in changed with the answer")
	}
}

// TestNothingIsKept changes what was handed in: each call speaks of what stands there then.
func TestNothingIsKept(t *testing.T) {
	v := &fail.Version{Want: 3, Have: -8}
	c := &fail.Code{E: api.ErrVersion, Cause: v}
	err := errors.Join(c)
	checkChain(t, chain{what: "as made", err: err, codes: []api.Errno{api.ErrVersion}, versions: []fail.Version{*v}})
	text := c.Error()
	v.Want, c.E = 7, api.ErrDown
	checkChain(t, chain{what: "changed", err: err, codes: []api.Errno{api.ErrDown}, versions: []fail.Version{{Want: 7, Have: -8}}})
	c.Cause = &fail.Code{E: api.ErrFull}
	checkChain(t, chain{what: "of another cause", err: err, codes: []api.Errno{api.ErrDown, api.ErrFull}})
	c.Cause = nil
	checkChain(t, chain{what: "of no cause", err: err, codes: []api.Errno{api.ErrDown}})
	c.E, c.Cause, v.Want = api.ErrVersion, v, 3
	if got := c.Error(); got != text {
		t.Errorf("P0.5: %q, where it was %q before", got, text)
	}
}

// TestTargetIsNotKept asks for the same number behind others: no call tells of the one before.
func TestTargetIsNotKept(t *testing.T) {
	all := chains()
	for _, c := range all {
		for _, between := range all {
			askAll(between.err)
			checkKind(t, c)
			checkVersions(t, c)
			if fail.Is(c.err, api.ErrBusy) != slices.Contains(c.codes, api.ErrBusy) {
				t.Errorf("P0.5: %s behind %s: Is", c.what, between.what)
			}
		}
	}
}

// TestSideBySide asks the same errors from several goroutines.
func TestSideBySide(t *testing.T) {
	all := append(chains(), rings()...)
	var group sync.WaitGroup
	for range 8 {
		group.Go(func() {
			for _, c := range all {
				checkChain(t, c)
				askAll(c.err)
			}
		})
	}
	group.Wait()
}
