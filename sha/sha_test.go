package sha_test

import (
	"bytes"
	"crypto/sha256"
	"encoding/hex"
	"strings"
	"testing"

	"indenture/api"
	"indenture/sha"
)

// text is n bytes of which no two blocks are the same.
func text(n int) []byte {
	b := make([]byte, n)
	x := uint32(1)
	for i := range b {
		x = x*1664525 + 1013904223
		b[i] = byte(x >> 24)
	}
	return b
}

// want is the sum that the library gives of the parts, one behind the other.
func want(parts ...[]byte) api.Hash {
	return api.Hash(sha256.Sum256(bytes.Join(parts, nil)))
}

// written is a State into which the parts were written.
func written(parts ...[]byte) *sha.State {
	s := sha.New()
	for _, p := range parts {
		s.Write(p)
	}
	return s
}

// check holds both ways to sum the parts against the library's.
func check(t *testing.T, parts ...[]byte) {
	t.Helper()
	w := want(parts...)
	if got := sha.Sum(parts...); got != w {
		t.Errorf("P2.1: Sum of %d parts: %x, want %x", len(parts), got, w)
	}
	if got := written(parts...).Sum(); got != w {
		t.Errorf("P2.1: State with %d parts: %x, want %x", len(parts), got, w)
	}
}

func TestKnown(t *testing.T) {
	for _, c := range []struct{ text, sum string }{
		{"", "e3b0c44298fc1c149afbf4c8996fb92427ae41e4649b934ca495991b7852b855"},
		{"abc", "ba7816bf8f01cfea414140de5dae2223b00361a396177a9cb410ff61f20015ad"},
		{"abcdbcdecdefdefgefghfghighijhijkijkljklmklmnlmnomnopnopq",
			"248d6a61d20638b8e5c026930c3e6039a33ce45964ff2167f6ecedd419db06c1"},
		{"abcdefghbcdefghicdefghijdefghijkefghijklfghijklmghijklmnhijklmnoijklmnopjklmnopqklmnopqrlmnopqrsmnopqrstnopqrstu",
			"cf5b16a778af8380036ce59e7b0492370b249b11e8f07a51afac45037afee9d1"},
		{strings.Repeat("a", 1000000),
			"cdc76e5c9914fb9281a1c7e284d73e67f1809a48a497200e046d39ccc7112cd0"},
	} {
		got := sha.Sum([]byte(c.text))
		if hex.EncodeToString(got[:]) != c.sum {
			t.Errorf("P2.1: Sum of %.20q (%d bytes) = %x, want %s", c.text, len(c.text), got, c.sum)
		}
		if s := written([]byte(c.text)); s.Sum() != got {
			t.Errorf("P2.1: State with %.20q (%d bytes) = %x, want %s", c.text, len(c.text), s.Sum(), c.sum)
		}
	}
}

func TestNothingWritten(t *testing.T) {
	nothing := want()
	for name, got := range map[string]api.Hash{
		"New": sha.New().Sum(), "Copy of New": sha.New().Copy().Sum(),
		"no parts": sha.Sum(), "nil": sha.Sum(nil), "empty": sha.Sum([]byte{}),
		"several of nothing": sha.Sum(nil, []byte{}, nil),
		"nil written":        written(nil).Sum(), "empty written": written([]byte{}, nil).Sum(),
		"a State of no making": new(sha.State).Sum(), "a Copy of it": new(sha.State).Copy().Sum(),
	} {
		if got != nothing {
			t.Errorf("P2.1: nothing written, %s: %x", name, got)
		}
	}
}

// TestEveryLength goes over the ends of several blocks, and over those where the length takes another block.
func TestEveryLength(t *testing.T) {
	whole := text(5*64 + 3)
	for n := range len(whole) + 1 {
		check(t, whole[:n])
		check(t, make([]byte, n))
		check(t, bytes.Repeat([]byte{0xff}, n))
	}
}

func TestLongText(t *testing.T) {
	for _, n := range []int{4096, 65535, 65536, 1 << 20, 1<<24 + 55, 1<<24 + 56} {
		check(t, text(n))
	}
}

// TestManyBits writes so much that the count of bits has no room in 32 bits.
func TestManyBits(t *testing.T) {
	if testing.Short() {
		t.Skip("takes some seconds")
	}
	piece := text(1 << 20)
	s, lib := sha.New(), sha256.New()
	for range 1<<9 + 1 {
		s.Write(piece)
		lib.Write(piece)
	}
	if got := s.Sum(); got != api.Hash(lib.Sum(nil)) {
		t.Errorf("P2.1: Sum of more than 2^32 bits: %x", got)
	}
}

func TestTwoAndThreeParts(t *testing.T) {
	whole := text(200)
	for i := range len(whole) + 1 {
		check(t, whole[:i], whole[i:])
		check(t, nil, whole[:i], nil, []byte{}, whole[i:], nil)
		for j := i; j <= len(whole); j += 13 {
			check(t, whole[:i], whole[i:j], whole[j:])
		}
	}
}

func TestEqualParts(t *testing.T) {
	whole := text(1000)
	for size := 1; size <= 200; size++ {
		var parts [][]byte
		for at := 0; at < len(whole); at += size {
			parts = append(parts, whole[at:min(at+size, len(whole))], nil)
		}
		check(t, parts...)
	}
}

// TestOrderOfParts holds that the parts are not told from one another, but their order is.
func TestOrderOfParts(t *testing.T) {
	a, b := []byte("ab"), []byte("c")
	if sha.Sum(a, b) != sha.Sum([]byte("a"), []byte("bc")) || sha.Sum(a, b) != sha.Sum([]byte("abc")) {
		t.Error("P2.1: where the parts meet is to be seen")
	}
	if sha.Sum(a, b) == sha.Sum(b, a) {
		t.Error("P2.1: the order of the parts is not to be seen")
	}
}

func TestSumInTheMidst(t *testing.T) {
	whole := text(300)
	s := sha.New()
	for i := range whole {
		for range 2 {
			if got := s.Sum(); got != want(whole[:i]) {
				t.Fatalf("P2.1: Sum behind %d bytes: %x", i, got)
			}
		}
		s.Write(whole[i : i+1])
	}
	if got := s.Sum(); got != want(whole) {
		t.Errorf("P2.1: Sum behind all: %x", got)
	}
}

func TestCopyGoesOnByItself(t *testing.T) {
	whole, other := text(200), bytes.Repeat([]byte("other"), 40)
	for i := range len(whole) + 1 {
		s := written(whole[:i])
		c := s.Copy()
		if c == s || c.Sum() != want(whole[:i]) {
			t.Fatalf("P2.1: Copy at %d: %x", i, c.Sum())
		}
		c.Write(other)
		if s.Sum() != want(whole[:i]) || c.Sum() != want(whole[:i], other) {
			t.Fatalf("P2.1: Copy at %d, the copy written to: %x, %x", i, s.Sum(), c.Sum())
		}
		s.Write(whole[i:])
		if s.Sum() != want(whole) || c.Sum() != want(whole[:i], other) {
			t.Fatalf("P2.1: Copy at %d, the state written to: %x, %x", i, s.Sum(), c.Sum())
		}
		d := c.Copy()
		c.Write([]byte("c"))
		d.Write([]byte("d"))
		if c.Sum() != want(whole[:i], other, []byte("c")) || d.Sum() != want(whole[:i], other, []byte("d")) {
			t.Fatalf("P2.1: Copy of a Copy at %d: %x, %x", i, c.Sum(), d.Sum())
		}
	}
}

func TestNewIsAnother(t *testing.T) {
	a, b := sha.New(), sha.New()
	a.Write([]byte("a"))
	b.Write([]byte("b"))
	if a.Sum() != want([]byte("a")) || b.Sum() != want([]byte("b")) {
		t.Errorf("P2.1: two States meet: %x, %x", a.Sum(), b.Sum())
	}
}

func TestNil(t *testing.T) {
	var none *sha.State
	for _, b := range [][]byte{nil, {}, []byte("abc"), text(200)} {
		none.Write(b)
		if none.Sum() != (api.Hash{}) || none.Copy() != nil {
			t.Errorf("P2.1: a nil State: %x, %v", none.Sum(), none.Copy())
		}
	}
}

// spare answers b with spare room behind it that is filled with 0xa5.
func spare(b []byte, room int) []byte {
	return append(bytes.Clone(b), bytes.Repeat([]byte{0xa5}, room)...)[:len(b)]
}

// spoil writes over all of b, its spare room too.
func spoil(b []byte) {
	b = b[:cap(b)]
	for i := range b {
		b[i] ^= 0xff
	}
}

func TestWriteKeepsNothing(t *testing.T) {
	for _, n := range []int{0, 1, 55, 56, 63, 64, 65, 128, 200} {
		b := spare(text(n), 200)
		before := bytes.Clone(b[:cap(b)])
		s := written(b)
		c := s.Copy()
		first, direct := s.Sum(), sha.Sum(b)
		if !bytes.Equal(b[:cap(b)], before) {
			t.Fatalf("P0.3: a list of %d bytes was changed", n)
		}
		spoil(b)
		for _, got := range []api.Hash{first, direct, s.Sum(), c.Sum()} {
			if got != want(text(n)) {
				t.Fatalf("P0.3: a State hangs on the %d bytes that were handed in, or on their spare room", n)
			}
		}
	}
}

func TestSumKeepsItsParts(t *testing.T) {
	whole := text(300)
	room := [][]byte{whole[:70], whole[70:75], nil, whole[75:], []byte("behind")}
	parts := room[:4]
	if got := sha.Sum(parts...); got != want(text(300)) {
		t.Errorf("P2.1: Sum of parts of one list: %x", got)
	}
	if !bytes.Equal(whole, text(300)) || len(parts[0]) != 70 || len(parts[1]) != 5 || parts[2] != nil ||
		len(parts[3]) != 225 || &parts[0][0] != &whole[0] || string(room[4]) != "behind" {
		t.Error("P0.3: the list of parts was changed")
	}
}

func TestSameAgain(t *testing.T) {
	b := text(130)
	if sha.Sum(b) != sha.Sum(bytes.Clone(b)) || written(b).Sum() != written(b[:7], b[7:]).Sum() {
		t.Error("P0.5: one text has two sums")
	}
}

func FuzzParts(f *testing.F) {
	f.Add([]byte("abc"), 1, 2)
	f.Add(text(130), 55, 64)
	f.Fuzz(func(t *testing.T, b []byte, i, j int) {
		i = max(0, min(i, len(b)))
		j = max(i, min(j, len(b)))
		check(t, b[:i], b[i:j], b[j:])
	})
}
