package box_test

import (
	"bytes"
	"strings"
	"testing"

	"indenture/api"
	"indenture/box"
	"indenture/tape"
)

// spare is b with room behind it, which is full of a byte that tells who writes there.
func spare(b []byte) []byte {
	long := append(bytes.Clone(b), same(0xa5, 64)...)
	return long[:len(b)]
}

// checkWhole holds that nobody wrote into b or its spare room.
func checkWhole(t *testing.T, what string, b, want []byte) {
	t.Helper()
	if !bytes.Equal(b, want) || !bytes.Equal(b[len(b):len(b)+64], same(0xa5, 64)) {
		t.Errorf("P0.3: %s changed what it was handed", what)
	}
}

// turn changes all of b, its spare room too.
func turn(b []byte) {
	b = b[:cap(b)]
	for i := range b {
		b[i] ^= 0xff
	}
}

func TestNothingHandedInIsChanged(t *testing.T) {
	for mode, x := range boxes() {
		for _, n := range append(lengths(), most, most+1) {
			for _, nonce := range []int64{0, 1, -1} {
				ad, b := spare(text(n)), spare(text(n))
				c := spare(x.Seal(someKey(), nonce, ad, b))
				want := bytes.Clone(c)
				x.Open(someKey(), nonce, ad, c)
				x.Open(someKey(), nonce, b, b)
				x.Is(someKey(), b, x.Mark(someKey(), b))
				checkWhole(t, mode, ad, text(n))
				checkWhole(t, mode, b, text(n))
				checkWhole(t, mode, c, want)
			}
		}
	}
}

// TestNothingHandedInIsKept writes into all that was handed in, its spare room too, behind each call.
func TestNothingHandedInIsKept(t *testing.T) {
	for mode, x := range boxes() {
		for _, n := range lengths() {
			ad, b := spare(text(n)), spare(text(n))
			c := x.Seal(someKey(), 1, ad, b)
			before := bytes.Clone(c)
			turn(ad)
			turn(b)
			if !bytes.Equal(c, before) {
				t.Errorf("P0.3: %s, Seal of %d bytes: shares memory with what it was handed", mode, n)
			}
			checkOpens(t, "P0.3: "+mode, x, someKey(), 1, text(n), c, text(n))
			if n > 0 {
				checkRefused(t, "P0.3: "+mode, x, someKey(), 1, ad, c)
			}
			given := spare(c)
			got, _ := x.Open(someKey(), 1, text(n), given)
			turn(given)
			if !bytes.Equal(got, text(n)) {
				t.Errorf("P0.3: %s, Open of %d bytes: shares memory with what it was handed", mode, n)
			}
			checkOpens(t, "P0.3: "+mode, x, someKey(), 1, text(n), c, text(n))

			b = spare(text(n))
			h := x.Mark(someKey(), b)
			turn(b)
			if !x.Is(someKey(), text(n), h) || x.Mark(someKey(), text(n)) != h || n > 0 && x.Is(someKey(), b, h) {
				t.Errorf("P0.3: %s, Mark of %d bytes keeps what it was handed", mode, n)
			}
		}
	}
}

// TestAnswersAreNewMemory writes into each answer, its spare room too, and asks again.
func TestAnswersAreNewMemory(t *testing.T) {
	for mode, x := range boxes() {
		for _, n := range append(lengths(), most) {
			c := x.Seal(someKey(), 1, nil, text(n))
			before := bytes.Clone(c)
			next := x.Seal(someKey(), 2, nil, text(n))
			nextBefore := bytes.Clone(next)
			turn(c)
			if !bytes.Equal(next, nextBefore) {
				t.Errorf("P0.3: %s, two answers of Seal of %d bytes share memory", mode, n)
			}
			checkRefused(t, "P0.3: "+mode, x, someKey(), 1, nil, c)
			one, _ := x.Open(someKey(), 1, nil, before)
			two, _ := x.Open(someKey(), 1, nil, before)
			turn(one)
			if !bytes.Equal(two, text(n)) {
				t.Errorf("P0.3: %s, two answers of Open of %d bytes share memory", mode, n)
			}
			turn(two)
			checkOpens(t, "P0.3: "+mode, x, someKey(), 1, nil, before, text(n))
			checkOpens(t, "P0.3: "+mode, x, someKey(), 2, nil, next, text(n))
		}
	}
}

// TestSealedIsNotTheTapes holds that who writes into what was sealed turns nothing that the tape gives later.
func TestSealedIsNotTheTapes(t *testing.T) {
	y := tape.New(2)
	x := box.New(api.Ideal, tape.New(2))
	for _, n := range append(lengths(), most) {
		c := x.Seal(someKey(), 1, nil, text(n))
		if !bytes.Equal(c, y.Next(n+16)) {
			t.Errorf("P0.3: Seal of %d bytes behind what was written over", n)
		}
		for _, r := range c[len(c):cap(c)] {
			if r != 0 {
				t.Fatalf("P0.3: behind %d sealed bytes stands more in the spare room", n)
			}
		}
		turn(c)
		h := x.Mark(someKey(), text(n))
		if !bytes.Equal(h[:], y.Next(32)) {
			t.Errorf("P0.3: Mark of %d bytes behind what was written over", n)
		}
	}
}

// TestHashesAreValues changes keys and marks behind the calls that they were handed to or came from.
func TestHashesAreValues(t *testing.T) {
	for mode, x := range boxes() {
		key := someKey()
		c, h, l := x.Seal(key, 1, nil, text(5)), x.Mark(key, text(5)), x.Label(key, "name")
		mark, label := h, l
		turn(key[:])
		turn(h[:])
		turn(l[:])
		checkOpens(t, "P0.3: "+mode, x, someKey(), 1, nil, c, text(5))
		if x.Mark(someKey(), text(5)) != mark || !x.Is(someKey(), text(5), mark) || x.Label(someKey(), "name") != label {
			t.Errorf("P0.3: %s, Mark, Is or Label hang on what was written over", mode)
		}
	}
}

// TestLongNames holds that the whole of a name counts.
func TestLongNames(t *testing.T) {
	for mode, x := range boxes() {
		long := strings.Repeat("x", 1<<16)
		if x.Label(someKey(), long+"a") == x.Label(someKey(), long+"b") || x.Label(someKey(), long) == x.Label(someKey(), long+"x") ||
			x.Mark(someKey(), []byte(long+"a")) == x.Mark(someKey(), []byte(long+"b")) {
			t.Errorf("P8.1, P8.2: %s, the end of a long name does not count", mode)
		}
	}
}
