package fail_test

import (
	"errors"
	"fmt"
	"slices"
	"testing"

	"indenture/api"
	"indenture/fail"
)

// builder makes errors out of bytes, and notes what it put into them.
type builder struct {
	data []byte
}

// next is the next byte; 0 behind the last one.
func (b *builder) next() byte {
	if len(b.data) == 0 {
		return 0
	}
	first := b.data[0]
	b.data = b.data[1:]
	return first
}

// leaf is an error that wraps nothing.
func (b *builder) leaf() chain {
	switch k := b.next(); k % 4 {
	case 0:
		return chain{err: errors.New("a leaf")}
	case 1:
		return chain{err: silent{}}
	case 2:
		v := fail.Version{Want: int64(int8(b.next())), Have: int64(int8(b.next()))}
		return chain{err: &v, versions: []fail.Version{v}}
	}
	e := api.Errno(int8(b.next()))
	return chain{err: &fail.Code{E: e}, codes: []api.Errno{e}}
}

// tree is an error that wraps others, no more than depth behind one another.
func (b *builder) tree(depth int) chain {
	if depth == 0 {
		return b.leaf()
	}
	switch k := b.next(); k % 8 {
	case 1, 2, 3:
		c := b.tree(depth - 1)
		e := api.Errno(int8(b.next()))
		return chain{err: &fail.Code{E: e, Cause: c.err}, codes: slices.Concat([]api.Errno{e}, c.codes), versions: c.versions}
	case 4:
		c := b.tree(depth - 1)
		return chain{err: fmt.Errorf("outside: %w", c.err), codes: c.codes, versions: c.versions}
	case 5:
		c := b.tree(depth - 1)
		return chain{err: lazy{behind: c.err}, codes: c.codes, versions: c.versions}
	case 6, 7:
		c, d := b.tree(depth-1), b.tree(depth-1)
		err := errors.Join(c.err, nil, d.err)
		if k%16 > 7 {
			err = fmt.Errorf("%w and %w", c.err, d.err)
		}
		return chain{err: err, codes: slices.Concat(c.codes, d.codes), versions: slices.Concat(c.versions, d.versions)}
	}
	return b.leaf()
}

// checkTexts holds all texts on the way down by single causes against the ones behind them.
func checkTexts(t *testing.T, err error) {
	t.Helper()
	for ; err != nil; err = errors.Unwrap(err) {
		if c, ok := err.(*fail.Code); ok {
			checkText(t, "made", c)
		}
	}
}

// FuzzFail makes errors out of bytes and asks all of them.
func FuzzFail(f *testing.F) {
	f.Add([]byte{})
	f.Add([]byte{3, 12})
	f.Add([]byte{1, 4, 6, 2, 3, 200, 3, 7, 10})
	f.Add([]byte{6, 6, 1, 3, 9, 12, 4, 2, 3, 4, 1, 5, 3, 1})
	f.Add([]byte{1, 1, 1, 1, 3, 5, 6, 7, 8, 9})
	f.Add([]byte{15, 2, 128, 127, 14, 3, 255, 5, 2, 1, 1})
	f.Fuzz(func(t *testing.T, data []byte) {
		b := builder{data: data}
		c := b.tree(8)
		c.what = fmt.Sprintf("made of %x", data)
		checkChain(t, c)
		checkTexts(t, c.err)
		for e := -128; e < 128; e++ {
			if got := fail.Is(c.err, api.Errno(e)); got != slices.Contains(c.codes, api.Errno(e)) {
				t.Errorf("P15.1: %s: Is of %d: %v", c.what, e, got)
			}
		}
	})
}
