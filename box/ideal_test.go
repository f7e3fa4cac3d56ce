package box_test

import (
	"bytes"
	"fmt"
	"math"
	"math/rand"
	"testing"

	"indenture/api"
	"indenture/box"
	"indenture/tape"
)

// book is the chapter's words once more: lists of notes that are gone through from their ends.
type book struct {
	tape          *tape.Tape
	sealed        []sealed
	marks, labels []marked
}

type sealed struct {
	key      api.Hash
	nonce    int64
	ad, b, c string
}

type marked struct {
	key  api.Hash
	text string
	h    api.Hash
}

func (k *book) seal(key api.Hash, nonce int64, ad, b string) []byte {
	if nonce < 0 || len(b) > most {
		return nil
	}
	c := k.tape.Next(len(b) + 16)
	k.sealed = append(k.sealed, sealed{key, nonce, ad, b, string(c)})
	return c
}

func (k *book) open(key api.Hash, nonce int64, ad, c string) (string, bool) {
	for i := len(k.sealed) - 1; i >= 0; i-- {
		if z := k.sealed[i]; z.key == key && z.nonce == nonce && z.ad == ad && z.c == c {
			return z.b, true
		}
	}
	return "", false
}

func (k *book) note(in *[]marked, key api.Hash, text string) api.Hash {
	for _, m := range *in {
		if m.key == key && m.text == text {
			return m.h
		}
	}
	h := api.Hash(k.tape.Next(32))
	*in = append(*in, marked{key, text, h})
	return h
}

func (k *book) is(key api.Hash, text string, h api.Hash) bool {
	for _, m := range k.marks {
		if m.key == key && m.text == text && m.h == h {
			return true
		}
	}
	return false
}

// checkNext holds that the box took of its tape just as much as was taken of y.
func checkNext(t *testing.T, what string, x *box.Box, y *tape.Tape) {
	t.Helper()
	want := y.Next(17)
	if got := x.Seal(someKey(), 1<<40, []byte("next"), []byte{7}); !bytes.Equal(got, want) {
		t.Errorf("P8.2: %s, what the tape gives next: %x, want %x", what, got, want)
	}
}

func TestIdealSealIsOfTheTape(t *testing.T) {
	for _, seed := range []int64{0, 1, -1, math.MaxInt64, math.MinInt64} {
		x, y := ideal(seed)
		for _, nonce := range nonces() {
			for _, n := range append(lengths(), most-1, most) {
				c, want := x.Seal(someKey(), nonce, text(n), text(n)), y.Next(n+16)
				if !bytes.Equal(c, want) {
					t.Fatalf("P8.2: Seal of %d bytes, nonce %d: %x, want %x", n, nonce, c, want)
				}
				checkOpens(t, "P8.2", x, someKey(), nonce, text(n), c, text(n))
			}
		}
	}
}

// TestIdealMost seals at the most bytes and beyond, where nothing goes.
func TestIdealMost(t *testing.T) {
	for _, nonce := range []int64{0, 1, math.MaxInt64} {
		x, y := ideal(5)
		for _, n := range []int{most + 1, most + 2, 3984, 3985, 4000, 4001, 65536 + 5, 1 << 20} {
			if got := x.Seal(someKey(), nonce, nil, text(n)); got != nil {
				t.Errorf("P8.2: Seal of %d bytes: %d bytes, want nil", n, len(got))
			}
			checkRefused(t, "P8.2: nothing was sealed", x, someKey(), nonce, nil, text(n))
			checkNext(t, "behind too many bytes", x, y)
			c := x.Seal(someKey(), nonce, nil, text(most))
			if !bytes.Equal(c, y.Next(most+16)) {
				t.Errorf("P8.2: Seal of %d bytes: %d bytes, not the tape's", most, len(c))
			}
			checkOpens(t, "P8.2: the most bytes", x, someKey(), nonce, nil, c, text(most))
		}
	}
}

// TestIdealBeside holds that what stands beside is as long as it likes and costs nothing of the tape.
func TestIdealBeside(t *testing.T) {
	x, y := ideal(6)
	for _, n := range []int{0, 1, most, most + 1, 4001, 1 << 20} {
		c := x.Seal(someKey(), 1, text(n), text(3))
		if !bytes.Equal(c, y.Next(19)) {
			t.Errorf("P8.2: Seal with %d bytes beside: %x", n, c)
		}
		checkOpens(t, "P8.2: beside", x, someKey(), 1, text(n), c, text(3))
	}
}

func TestIdealBelowNoughtTakesNothing(t *testing.T) {
	x, y := ideal(7)
	for _, nonce := range below() {
		for _, n := range []int{0, 1, 16, most, most + 1} {
			if got := x.Seal(someKey(), nonce, nil, text(n)); got != nil {
				t.Errorf("P8.2: Seal of the nonce %d: %x", nonce, got)
			}
			checkRefused(t, "P8.2: below 0", x, someKey(), nonce, nil, text(n))
			checkNext(t, "behind a nonce below 0", x, y)
		}
		for _, n := range []int{16, 21} {
			// What the tape would have given must open nothing either.
			checkRefused(t, "P8.2: below 0", x, someKey(), nonce, nil, y.Copy().Next(n))
		}
	}
}

// TestIdealMarksTakeOnce counts what goes of the tape at the first time and again.
func TestIdealMarksTakeOnce(t *testing.T) {
	x, y := ideal(8)
	for _, key := range keys() {
		for _, name := range names() {
			mark := x.Mark(key, []byte(name))
			if !bytes.Equal(mark[:], y.Next(32)) {
				t.Errorf("P8.2: Mark of %d bytes is not the tape's", len(name))
			}
			label := x.Label(key, name)
			if !bytes.Equal(label[:], y.Next(32)) {
				t.Errorf("P8.2: Label of %d letters is not the tape's", len(name))
			}
			for range 3 {
				if x.Mark(key, []byte(name)) != mark || x.Label(key, name) != label {
					t.Errorf("P8.2: Mark or Label of %d bytes is another one again", len(name))
				}
			}
			checkNext(t, "behind marks asked again", x, y)
		}
	}
}

// TestIdealLabelFirst has the label noted first, so that neither book stands for the other.
func TestIdealLabelFirst(t *testing.T) {
	x, y := ideal(9)
	for _, name := range names() {
		label := x.Label(someKey(), name)
		if x.Is(someKey(), []byte(name), label) || !bytes.Equal(label[:], y.Next(32)) {
			t.Errorf("P8.2: Label of %d letters, %x, was noted as a mark or is not the tape's", len(name), label)
		}
		mark := x.Mark(someKey(), []byte(name))
		if mark == label || !bytes.Equal(mark[:], y.Next(32)) || !x.Is(someKey(), []byte(name), mark) {
			t.Errorf("P8.2: Mark of %d bytes behind their label: %x", len(name), mark)
		}
	}
}

// TestIdealAsksTakeNothing holds that Open and Is neither take of the tape nor note.
func TestIdealAsksTakeNothing(t *testing.T) {
	x, y := ideal(10)
	for _, n := range lengths() {
		for _, key := range keys() {
			// What the tape gives next is a mark of nothing and opens nothing, until it is asked for.
			next := y.Copy().Next(n + 32)
			for range 2 {
				if x.Is(key, text(n), api.Hash(next[:32])) || x.Is(key, text(n), api.Hash{}) {
					t.Errorf("P8.2: Is of %d bytes that were not marked", n)
				}
				checkRefused(t, "P8.2: nothing was sealed", x, key, 1, nil, next[:n])
				checkRefused(t, "P8.2: nothing was sealed", x, key, 1, nil, nil)
			}
			checkNext(t, "behind questions", x, y)
			mark := x.Mark(key, text(n))
			if !bytes.Equal(mark[:], y.Next(32)) || !x.Is(key, text(n), mark) {
				t.Errorf("P8.2: Mark of %d bytes behind questions: %x", n, mark)
			}
			c := x.Seal(key, 1, nil, text(n))
			if !bytes.Equal(c, y.Next(n+16)) {
				t.Errorf("P8.2: Seal of %d bytes behind questions: %x", n, c)
			}
			for range 3 {
				checkOpens(t, "P8.2: again", x, key, 1, nil, c, text(n))
				if !x.Is(key, text(n), mark) {
					t.Errorf("P8.2: Is of %d bytes, again", n)
				}
			}
			checkNext(t, "behind answers", x, y)
		}
	}
}

// TestIdealSealsAnew holds that the same sealed again has bytes of its own, and that all of them stay open.
func TestIdealSealsAnew(t *testing.T) {
	x, y := ideal(11)
	var all [][]byte
	for i := range 50 {
		c := x.Seal(someKey(), 4, text(2), text(i%2*5))
		if !bytes.Equal(c, y.Next(16+i%2*5)) {
			t.Errorf("P8.2: sealed for the %d-th time: %x", i, c)
		}
		all = append(all, c)
	}
	for i, c := range all {
		checkOpens(t, "P8.2: sealed again", x, someKey(), 4, text(2), c, text(i%2*5))
	}
}

// TestIdealOpensTheLatest winds the tape back, so that unlike texts are sealed by the same bytes.
func TestIdealOpensTheLatest(t *testing.T) {
	y := tape.New(12)
	x := box.New(api.Ideal, y)
	for _, n := range []int{0, 1, 16, 100} {
		for i := range byte(5) {
			*y = *tape.New(12)
			c := x.Seal(someKey(), 4, text(2), same(i, n))
			other := x.Seal(someKey(), 5, text(2), text(n))
			checkOpens(t, "P8.2: the latest", x, someKey(), 4, text(2), c, same(i, n))
			checkOpens(t, "P8.2: another nonce", x, someKey(), 5, text(2), other, text(n))
		}
	}
}

// TestIdealSameBytes winds the tape back, so that the same bytes are noted with unlike keys, nonces and bytes beside, and
// unlike texts have one mark.
func TestIdealSameBytes(t *testing.T) {
	y := tape.New(13)
	x := box.New(api.Ideal, y)
	var c []byte
	for i, key := range keys() {
		for k := range 3 {
			*y = *tape.New(13)
			c = x.Seal(key, int64(k), text(k), []byte{byte(i), byte(k)})
		}
	}
	for i, key := range keys() {
		for k := range 3 {
			checkOpens(t, "P8.2: the same bytes", x, key, int64(k), text(k), c, []byte{byte(i), byte(k)})
			checkRefused(t, "P8.2: the same bytes", x, key, int64(k), text(k+1), c)
		}
	}
	*y = *tape.New(13)
	first := x.Mark(someKey(), []byte("one"))
	*y = *tape.New(13)
	if x.Mark(someKey(), []byte("two")) != first || x.Label(someKey(), "one") == first ||
		!x.Is(someKey(), []byte("one"), first) || !x.Is(someKey(), []byte("two"), first) || x.Is(someKey(), []byte("six"), first) {
		t.Error("P8.2: two texts of one mark")
	}
}

// TestIdealTakesOfTheTape holds that what a box is handed is its tape: what went for the box went.
func TestIdealTakesOfTheTape(t *testing.T) {
	y, z := tape.New(14), tape.New(14)
	y.Next(5)
	z.Next(5)
	x, other := box.New(api.Ideal, y), box.New(api.Ideal, y)
	for i := range 10 {
		c := x.Seal(someKey(), 1, nil, text(i))
		if !bytes.Equal(c, z.Next(16+i)) || !bytes.Equal(y.Next(3), z.Next(3)) {
			t.Errorf("P8.2: Seal of %d bytes from a tape of which others take", i)
		}
		d := other.Seal(someKey(), 1, nil, text(i))
		if !bytes.Equal(d, z.Next(16+i)) {
			t.Errorf("P8.2: Seal of %d bytes by another box of the tape", i)
		}
		checkRefused(t, "P8.2: another box's", other, someKey(), 1, nil, c)
		checkRefused(t, "P8.2: another box's", x, someKey(), 1, nil, d)
		h := x.Mark(someKey(), text(i))
		if !bytes.Equal(h[:], z.Next(32)) || other.Is(someKey(), text(i), h) || other.Mark(someKey(), text(i)) == h {
			t.Errorf("P8.2: Mark of %d bytes, by two boxes of one tape", i)
		}
		z.Next(32)
	}
}

// TestIdealBoxesAreApart has two boxes of tapes of one seed, that know nothing of each other.
func TestIdealBoxesAreApart(t *testing.T) {
	x, _ := ideal(15)
	other, _ := ideal(15)
	c, h, l := x.Seal(someKey(), 1, nil, text(9)), x.Mark(someKey(), text(9)), x.Label(someKey(), "name")
	checkRefused(t, "P8.2: another box's", other, someKey(), 1, nil, c)
	if other.Is(someKey(), text(9), h) {
		t.Error("P8.2: Is of another box's mark")
	}
	if !bytes.Equal(other.Seal(someKey(), 2, nil, text(9)), c) || other.Mark(someKey(), text(8)) != h || other.Label(someKey(), "") != l {
		t.Error("P8.2: a box of the same tape does not give the same")
	}
	checkRefused(t, "P8.2: the other nonce", other, someKey(), 1, nil, c)
	checkOpens(t, "P8.2: its own nonce", other, someKey(), 2, nil, c, text(9))
}

// TestIdealKnown holds what a box of seed 0 gives, by the beginning of its tape that another program worked out.
func TestIdealKnown(t *testing.T) {
	x, _ := ideal(0)
	c, h := x.Seal(someKey(), 0, nil, nil), x.Mark(someKey(), nil)
	if got := fmt.Sprintf("%x%x", c, h); got != "96a296d224f285c67bee93c30f8a309157f0daa35dc5b87e410b78630a09cfc7"+
		"fcf0a6c700dd13e274b6fba8deea8dd9" {
		t.Errorf("P8.2: a box of seed 0: %s", got)
	}
}

// walk is a box and its second form, of which the same is asked.
type walk struct {
	t    *testing.T
	x    *box.Box
	k    *book
	next func(n int) int
}

func newWalk(t *testing.T, seed int64, next func(n int) int) *walk {
	return &walk{t, box.New(api.Ideal, tape.New(seed)), &book{tape: tape.New(seed)}, next}
}

// key, nonce and text choose among so few that they come again.
func (w *walk) key() api.Hash { return api.Hash{0: byte(w.next(2)), 31: byte(w.next(2))} }

func (w *walk) nonce() int64 { return []int64{0, 1, 2, math.MaxInt64, -1, math.MinInt64}[w.next(6)] }

func (w *walk) text() string {
	return []string{"", "a", "b", "ab", string(text(40)), string(text(most)), string(text(most + 1))}[w.next(7)]
}

// step asks one thing of both.
func (w *walk) step() {
	w.t.Helper()
	key, nonce, ad, b := w.key(), w.nonce(), w.text(), w.text()
	switch w.next(6) {
	case 0, 1:
		got, want := w.x.Seal(key, nonce, []byte(ad), []byte(b)), w.k.seal(key, nonce, ad, b)
		if !bytes.Equal(got, want) || want == nil && got != nil {
			w.t.Errorf("P8.2: Seal of %d bytes, nonce %d: %d bytes, want %d", len(b), nonce, len(got), len(want))
		}
	case 2:
		w.open(key, nonce, ad)
	case 3:
		if got, want := w.x.Mark(key, []byte(b)), w.k.note(&w.k.marks, key, b); got != want {
			w.t.Errorf("P8.2: Mark of %d bytes: %x, want %x", len(b), got, want)
		}
	case 4:
		if got, want := w.x.Label(key, b), w.k.note(&w.k.labels, key, b); got != want {
			w.t.Errorf("P8.2: Label of %d bytes: %x, want %x", len(b), got, want)
		}
	case 5:
		w.is(key, b)
	}
}

// open opens what was sealed at some time, by what it was sealed by or by something else.
func (w *walk) open(key api.Hash, nonce int64, ad string) {
	w.t.Helper()
	c := ""
	if n := len(w.k.sealed); n > 0 {
		z := w.k.sealed[w.next(n)]
		c = z.c
		if w.next(2) == 0 {
			key, nonce, ad = z.key, z.nonce, z.ad
		}
	}
	want, wantOK := w.k.open(key, nonce, ad, c)
	got, ok := w.x.Open(key, nonce, []byte(ad), []byte(c))
	if ok != wantOK || string(got) != want || !ok && got != nil {
		w.t.Errorf("P8.2: Open of %d bytes, nonce %d: %x, %v, want %x, %v", len(c), nonce, got, ok, want, wantOK)
	}
}

// is asks for marks and labels that were noted at some time.
func (w *walk) is(key api.Hash, b string) {
	w.t.Helper()
	for _, list := range [][]marked{w.k.marks, w.k.labels} {
		for _, m := range list {
			if got, want := w.x.Is(key, []byte(b), m.h), w.k.is(key, b, m.h); got != want {
				w.t.Errorf("P8.2: Is of %d bytes: %v, want %v", len(b), got, want)
			}
		}
	}
}

func TestIdealInAnyOrder(t *testing.T) {
	walks := 300
	if testing.Short() {
		walks = 60
	}
	for seed := range int64(walks) {
		w := newWalk(t, seed-5, rand.New(rand.NewSource(seed)).Intn)
		for range 100 {
			w.step()
		}
	}
}

// FuzzIdeal takes each choice of a walk from the bytes that it is given.
func FuzzIdeal(f *testing.F) {
	f.Add(int64(0), []byte("sealed, opened, marked"))
	f.Add(int64(-1), text(200))
	f.Add(int64(math.MinInt64), same(0, 100))
	f.Fuzz(func(t *testing.T, seed int64, b []byte) {
		w := newWalk(t, seed, func(n int) int {
			if len(b) == 0 {
				return 0
			}
			x := int(b[0])
			b = b[1:]
			return x % n
		})
		for len(b) > 0 {
			w.step()
		}
	})
}
