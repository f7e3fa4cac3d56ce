package box_test

import (
	"bytes"
	"math"
	"strings"
	"testing"

	"indenture/api"
	"indenture/box"
	"indenture/tape"
)

const most = 3000

// text is n bytes of which no two pieces are the same.
func text(n int) []byte {
	b := make([]byte, n)
	x := uint32(1)
	for i := range b {
		x = x*1664525 + 1013904223
		b[i] = byte(x >> 24)
	}
	return b
}

// same is n bytes of x.
func same(x byte, n int) []byte { return bytes.Repeat([]byte{x}, n) }

// someKey is that of the tests at which any would do.
func someKey() api.Hash { return api.Hash(text(32)) }

// keys are such of noughts alone, of ones alone, and others.
func keys() []api.Hash {
	return []api.Hash{{}, api.Hash(same(0xff, 32)), {0: 1}, {31: 1}, {31: 0x80}, someKey()}
}

// nonces are the edges, and one about each number from which on another byte counts.
func nonces() []int64 {
	n := []int64{0, 1, 2, 0x0102030405060708, math.MaxInt64 - 1, math.MaxInt64}
	for bit := 7; bit < 63; bit += 8 {
		n = append(n, 1<<bit-1, 1<<bit, 1<<(bit+1)-1)
	}
	return n
}

// below are nonces that no box takes.
func below() []int64 {
	return []int64{-1, -2, -128, -256, -1 << 31, -1 << 32, -1 << 62, math.MinInt64 + 1, math.MinInt64}
}

// lengths are nothing, one byte, and those about the ends of the first pieces and blocks.
func lengths() []int {
	return []int{0, 1, 2, 15, 16, 17, 31, 32, 33, 63, 64, 65, 127, 128, 129, 1000}
}

// names are such as hide something of their own: nothing, noughts, letters that are none.
func names() []string {
	return []string{"", "a", "b", "ab", "\x00", "\x01", "\x01a", "a\x00", "\xff\xfe", "käse", strings.Repeat("n", api.MaxName),
		string(text(200)), string(text(5000))}
}

// ideal is an ideal box and another tape of the same seed, that tells what the box is to get.
func ideal(seed int64) (*box.Box, *tape.Tape) {
	return box.New(api.Ideal, tape.New(seed)), tape.New(seed)
}

// boxes are one of either mode.
func boxes() map[string]*box.Box {
	return map[string]*box.Box{"real": box.New(api.Real, nil), "ideal": box.New(api.Ideal, tape.New(1))}
}

// eachBit hands f each form of b in which one bit is turned.
func eachBit(b []byte, f func(turned []byte)) {
	for bit := range 8 * len(b) {
		turned := bytes.Clone(b)
		turned[bit/8] ^= 1 << (bit % 8)
		f(turned)
	}
}

// checkOpens holds that Open answers b.
func checkOpens(t *testing.T, what string, x *box.Box, key api.Hash, nonce int64, ad, c, b []byte) {
	t.Helper()
	if got, ok := x.Open(key, nonce, ad, c); !ok || !bytes.Equal(got, b) {
		t.Errorf("%s: Open of %d bytes, %d beside, nonce %d: %x, %v, want %x", what, len(c), len(ad), nonce, got, ok, b)
	}
}

// checkRefused holds that Open answers nil, false.
func checkRefused(t *testing.T, what string, x *box.Box, key api.Hash, nonce int64, ad, c []byte) {
	t.Helper()
	if got, ok := x.Open(key, nonce, ad, c); got != nil || ok {
		t.Errorf("%s: Open of %d bytes, %d beside, nonce %d: %x, %v, want nil, false", what, len(c), len(ad), nonce, got, ok)
	}
}

func TestNew(t *testing.T) {
	others := []int{-1, 2, 3, 10, 255, 256, 257, -255, -256, 1 << 31, 1 << 32, 1<<32 + 1, -1 << 32, math.MaxInt, math.MinInt,
		math.MinInt + 1}
	for _, mode := range others {
		if box.New(mode, nil) != nil || box.New(mode, tape.New(1)) != nil {
			t.Errorf("P8.2: New of the mode %d is not nil", mode)
		}
	}
	if box.New(api.Ideal, nil) != nil {
		t.Error("P8.2: New of Ideal and a nil tape is not nil")
	}
	if box.New(api.Real, nil) == nil || box.New(api.Real, tape.New(1)) == nil || box.New(api.Ideal, tape.New(1)) == nil {
		t.Error("P8.2: New is nil")
	}
}

// TestNewTakesNothing holds that neither a box that is made nor one that is not takes of the tape.
func TestNewTakesNothing(t *testing.T) {
	for _, mode := range []int{api.Real, api.Ideal, -1, 2, math.MaxInt} {
		x := tape.New(3)
		box.New(mode, x)
		if !bytes.Equal(x.Next(40), tape.New(3).Next(40)) {
			t.Errorf("P8.2: New of the mode %d took of the tape", mode)
		}
	}
}

func TestNil(t *testing.T) {
	var none *box.Box
	for _, key := range keys() {
		for _, nonce := range append(nonces(), below()...) {
			for _, b := range [][]byte{nil, {}, text(1), text(16), text(most + 1)} {
				if got := none.Seal(key, nonce, b, b); got != nil {
					t.Errorf("P8.2: Seal of a nil Box: %x", got)
				}
				checkRefused(t, "P8.2: a nil Box", none, key, nonce, b, b)
			}
		}
		for _, name := range names() {
			if got := none.Mark(key, []byte(name)); got != (api.Hash{}) {
				t.Errorf("P8.2: Mark of a nil Box: %x", got)
			}
			if got := none.Label(key, name); got != (api.Hash{}) {
				t.Errorf("P8.2: Label of a nil Box: %x", got)
			}
			for _, h := range keys() {
				if none.Is(key, []byte(name), h) {
					t.Errorf("P8.2: Is of a nil Box, %x", h)
				}
			}
		}
	}
	for _, x := range boxes() {
		checkRefused(t, "P8.2: a nil Box", none, someKey(), 1, nil, x.Seal(someKey(), 1, nil, text(5)))
		if none.Is(someKey(), text(5), x.Mark(someKey(), text(5))) {
			t.Error("P8.2: Is of a nil Box, of another one's mark")
		}
	}
}

// TestOfNoMaking holds that a Box that New did not make ends no program.
func TestOfNoMaking(t *testing.T) {
	x := new(box.Box)
	for _, nonce := range append(nonces(), below()...) {
		for _, n := range append(lengths(), most, most+1) {
			c := x.Seal(someKey(), nonce, text(n), text(n))
			x.Open(someKey(), nonce, text(n), c)
			x.Open(someKey(), nonce, text(n), text(n))
		}
	}
	for _, name := range names() {
		x.Is(someKey(), []byte(name), x.Mark(someKey(), []byte(name)))
		x.Label(someKey(), name)
	}
}

// TestBelowNought asks for nonces below 0, with bytes that were sealed by others and with none.
func TestBelowNought(t *testing.T) {
	for mode, x := range boxes() {
		c := x.Seal(someKey(), 1, text(3), text(40))
		for _, nonce := range below() {
			for _, b := range [][]byte{nil, {}, text(40), text(most), text(most + 1)} {
				if got := x.Seal(someKey(), nonce, text(3), b); got != nil {
					t.Errorf("P8.1, P8.2: %s, Seal of the nonce %d: %x", mode, nonce, got)
				}
				checkRefused(t, "P8.1, P8.2: "+mode, x, someKey(), nonce, text(3), b)
			}
			checkRefused(t, "P8.1, P8.2: "+mode, x, someKey(), nonce, text(3), c)
		}
		checkOpens(t, "P8.1, P8.2: "+mode, x, someKey(), 1, text(3), c, text(40))
	}
}

// TestOpensWhatWasSealed seals first all of it, then opens, so that nothing stands for anything else.
func TestOpensWhatWasSealed(t *testing.T) {
	for mode, x := range boxes() {
		type note struct {
			key   api.Hash
			nonce int64
			ad, b []byte
			c     []byte
		}
		var notes []note
		for _, key := range keys() {
			for _, nonce := range nonces() {
				for _, n := range []int{0, 1, 16, 65} {
					ad, b := text(n + 1)[1:], text(70)[n:]
					notes = append(notes, note{key, nonce, ad, b, x.Seal(key, nonce, ad, b)})
				}
			}
		}
		for i, z := range notes {
			if len(z.c) != len(z.b)+16 {
				t.Errorf("P8.1, P8.2: %s, Seal of %d bytes: %d", mode, len(z.b), len(z.c))
			}
			checkOpens(t, "P8.1, P8.2: "+mode, x, z.key, z.nonce, z.ad, z.c, z.b)
			next := notes[(i+1)%len(notes)]
			checkRefused(t, "P8.1, P8.2: "+mode+", another's", x, z.key, z.nonce, z.ad, next.c)
			checkRefused(t, "P8.1, P8.2: "+mode+", by another's", x, next.key, next.nonce, next.ad, z.c)
		}
		for i := len(notes) - 1; i >= 0; i-- {
			z := notes[i]
			checkOpens(t, "P8.1, P8.2: "+mode+", again", x, z.key, z.nonce, z.ad, z.c, z.b)
		}
	}
}

// TestJustThese turns each bit of all that is handed to Open, and cuts and moves its bytes.
func TestJustThese(t *testing.T) {
	for mode, x := range boxes() {
		what := "P8.1, P8.2: " + mode
		for _, n := range []int{0, 1, 16, 33} {
			for _, k := range []int{0, 1, 16, 33} {
				key, nonce, ad := someKey(), int64(0x0102030405060708), text(k)
				c := x.Seal(key, nonce, ad, text(n))
				eachBit(c, func(turned []byte) { checkRefused(t, what+", a bit of c", x, key, nonce, ad, turned) })
				eachBit(ad, func(turned []byte) { checkRefused(t, what+", a bit of ad", x, key, nonce, turned, c) })
				eachBit(key[:], func(turned []byte) {
					checkRefused(t, what+", a bit of the key", x, api.Hash(turned), nonce, ad, c)
				})
				for bit := range 64 {
					checkRefused(t, what+", a bit of the nonce", x, key, nonce^(1<<bit), ad, c)
				}
				for i := range len(c) {
					checkRefused(t, what+", cut off", x, key, nonce, ad, c[:i])
					checkRefused(t, what+", cut off ahead", x, key, nonce, ad, c[i+1:])
					moved := append(bytes.Clone(ad), c[:i+1]...)
					checkRefused(t, what+", moved to ad", x, key, nonce, moved, c[i+1:])
				}
				for i := range k {
					checkRefused(t, what+", ad cut off", x, key, nonce, ad[:i], c)
					moved := append(bytes.Clone(ad[i:]), c...)
					checkRefused(t, what+", moved from ad", x, key, nonce, ad[:i], moved)
				}
				checkRefused(t, what+", longer", x, key, nonce, ad, append(bytes.Clone(c), 0))
				checkRefused(t, what+", ad longer", x, key, nonce, append(bytes.Clone(ad), 0), c)
				checkOpens(t, what, x, key, nonce, ad, c, text(n))
			}
		}
	}
}

// TestJustTheseMarks turns each bit of all that is handed to Is.
func TestJustTheseMarks(t *testing.T) {
	for mode, x := range boxes() {
		for _, n := range []int{0, 1, 16, 33} {
			key, b := someKey(), text(n)
			h := x.Mark(key, b)
			if !x.Is(key, b, h) {
				t.Errorf("P8.1, P8.2: %s, Is of the mark of %d bytes is false", mode, n)
			}
			eachBit(h[:], func(turned []byte) {
				if x.Is(key, b, api.Hash(turned)) {
					t.Errorf("P8.1, P8.2: %s, Is where a bit of h is turned", mode)
				}
			})
			eachBit(key[:], func(turned []byte) {
				if x.Is(api.Hash(turned), b, h) {
					t.Errorf("P8.1, P8.2: %s, Is where a bit of the key is turned", mode)
				}
			})
			eachBit(b, func(turned []byte) {
				if x.Is(key, turned, h) {
					t.Errorf("P8.1, P8.2: %s, Is where a bit of b is turned", mode)
				}
			})
			if x.Is(key, append(bytes.Clone(b), 0), h) || n > 0 && x.Is(key, b[1:], h) || x.Is(key, b, api.Hash{}) {
				t.Errorf("P8.1, P8.2: %s, Is of other bytes, or of none", mode)
			}
		}
	}
}

// TestMarksAreToldApart holds that marks and labels by each key, and of each bit, are their own; and the same again.
func TestMarksAreToldApart(t *testing.T) {
	for mode, x := range boxes() {
		marks, labels := map[api.Hash]int{}, map[api.Hash]int{}
		count := 0
		for range 2 {
			count = 0
			for _, key := range keys() {
				for _, name := range names() {
					marks[x.Mark(key, []byte(name))]++
					labels[x.Label(key, name)]++
					count++
				}
				eachBit(text(20), func(turned []byte) {
					marks[x.Mark(key, turned)]++
					labels[x.Label(key, string(turned))]++
					count++
				})
			}
		}
		if len(marks) != count || len(labels) != count {
			t.Errorf("P8.1, P8.2: %s, %d marks, %d labels, want %d", mode, len(marks), len(labels), count)
		}
		for h, n := range marks {
			if n != 2 {
				t.Errorf("P8.1, P8.2: %s, the mark %x %d times, want 2", mode, h, n)
			}
		}
		for h, n := range labels {
			if n != 2 {
				t.Errorf("P8.1, P8.2: %s, the label %x %d times, want 2", mode, h, n)
			}
		}
	}
}

// TestLabelsAreNoMarks holds that a name's label is not the mark of the same letters.
func TestLabelsAreNoMarks(t *testing.T) {
	for mode, x := range boxes() {
		for _, key := range keys() {
			for _, name := range names() {
				label := x.Label(key, name)
				if x.Is(key, []byte(name), label) || x.Mark(key, []byte(name)) == label || x.Is(key, []byte(name), label) {
					t.Errorf("P8.1, P8.2: %s, the label of %d letters is their mark", mode, len(name))
				}
			}
		}
	}
}

// TestNilIsEmpty hands in nothing in all its forms.
func TestNilIsEmpty(t *testing.T) {
	none := [][]byte{nil, {}, text(5)[:0], text(100)[:0]}
	for mode, x := range boxes() {
		mark := x.Mark(someKey(), nil)
		for _, a := range none {
			c, d := x.Seal(someKey(), 1, a, text(5)), x.Seal(someKey(), 2, text(5), a)
			if len(c) != 21 || len(d) != 16 {
				t.Errorf("P0.4: %s, Seal of nothing: %d and %d bytes", mode, len(c), len(d))
			}
			for _, b := range none {
				checkOpens(t, "P0.4: "+mode, x, someKey(), 1, b, c, text(5))
				checkRefused(t, "P0.4: "+mode, x, someKey(), 1, a, b)
			}
			checkOpens(t, "P0.4: "+mode, x, someKey(), 2, text(5), d, nil)
			if x.Mark(someKey(), a) != mark || !x.Is(someKey(), a, mark) {
				t.Errorf("P0.4: %s, Mark and Is of nothing: nil and empty are not the same", mode)
			}
		}
	}
}
