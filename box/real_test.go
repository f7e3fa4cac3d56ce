package box_test

import (
	"bytes"
	"crypto/hmac"
	"crypto/sha256"
	"encoding/binary"
	"encoding/hex"
	"strings"
	"testing"

	"indenture/aead"
	"indenture/api"
	"indenture/box"
	"indenture/mac"
	"indenture/tape"
)

// raw is the bytes that a text of hex digits tells.
func raw(t *testing.T, s string) []byte {
	t.Helper()
	b, err := hex.DecodeString(s)
	if err != nil {
		t.Fatal(err)
	}
	return b
}

// twelve is a nonce's bytes by the library.
func twelve(nonce int64) [12]byte {
	return [12]byte(binary.BigEndian.AppendUint64(make([]byte, 4), uint64(nonce)))
}

// byLibrary is a mark of parts by the library.
func byLibrary(key api.Hash, parts ...string) api.Hash {
	h := hmac.New(sha256.New, key[:])
	for _, part := range parts {
		h.Write([]byte(part))
	}
	return api.Hash(h.Sum(nil))
}

// TestOfRFC8439 holds Seal and Open against A.5, whose nonce begins with four noughts.
func TestOfRFC8439(t *testing.T) {
	key := api.Hash(raw(t, "1c9240a5eb55d38af333888604f6b5f0473917c1402b80099dca5cbc207075c0"))
	ad := raw(t, "f33388860000000000004e91")
	b := "Internet-Drafts are draft documents valid for a maximum of six months and may be updated, replaced, " +
		"or obsoleted by other documents at any time. It is inappropriate to use Internet-Drafts as " +
		"reference material or to cite them other than as /\u201cwork in progress./\u201d"
	c := "64a0861575861af460f062c79be643bd5e805cfd345cf389f108670ac76c8cb2" +
		"4c6cfc18755d43eea09ee94e382d26b0bdb7b73c321b0100d4f03b7f355894cf" +
		"332f830e710b97ce98c8a84abd0b948114ad176e008d33bd60f982b1ff37c855" +
		"9797a06ef4f0ef61c186324e2b3506383606907b6a7c02b0f9f6157b53c867e4" +
		"b9166c767b804d46a59b5216cde7a4e99040c5a40433225ee282a1b0a06c523e" +
		"af4534d7f83fa1155b0047718cbc546a0d072b04b3564eea1b422273f548271a" +
		"0bb2316053fa76991955ebd63159434ecebb4e466dae5a1073a6727627097a10" +
		"49e617d91d361094fa68f0ff77987130305beaba2eda04df997b714d6c6f2c29" +
		"a6ad5cb4022b02709beead9d67890cbb22392336fea1851f38"
	x := box.New(api.Real, nil)
	if got := hex.EncodeToString(x.Seal(key, 0x0102030405060708, ad, []byte(b))); got != c {
		t.Errorf("P8.1: RFC 8439, A.5, Seal: %s, want %s", got, c)
	}
	checkOpens(t, "P8.1: RFC 8439, A.5", x, key, 0x0102030405060708, ad, raw(t, c), []byte(b))
}

// TestOfRFC4231 holds Mark and Is against the cases whose keys, filled up with noughts, are as long as a box's.
func TestOfRFC4231(t *testing.T) {
	x := box.New(api.Real, nil)
	for i, c := range []struct{ key, text, sum string }{
		{strings.Repeat("0b", 20), hex.EncodeToString([]byte("Hi There")),
			"b0344c61d8db38535ca8afceaf0bf12b881dc200c9833da726e9376c2e32cff7"},
		{hex.EncodeToString([]byte("Jefe")), hex.EncodeToString([]byte("what do ya want for nothing?")),
			"5bdcc146bf60754e6a042426089575c75a003f089d2739839dec58b964ec3843"},
		{strings.Repeat("aa", 20), strings.Repeat("dd", 50),
			"773ea91e36800e46854db8ebd09181a72959098b3ef8c122d9635514ced565fe"},
		{"0102030405060708090a0b0c0d0e0f10111213141516171819", strings.Repeat("cd", 50),
			"82558a389a443c0ea4cc819899f2083a85f0faa3e578f8077a2e3ff46729665b"},
	} {
		var key api.Hash
		copy(key[:], raw(t, c.key))
		if got := x.Mark(key, raw(t, c.text)); hex.EncodeToString(got[:]) != c.sum {
			t.Errorf("P8.1: RFC 4231, case %d, Mark: %x, want %s", i+1, got, c.sum)
		}
		if !x.Is(key, raw(t, c.text), api.Hash(raw(t, c.sum))) {
			t.Errorf("P8.1: RFC 4231, case %d: Is is false", i+1)
		}
	}
}

func TestRealSealIsAead(t *testing.T) {
	x := box.New(api.Real, nil)
	for _, key := range keys() {
		for _, nonce := range nonces() {
			for _, n := range lengths() {
				for _, k := range []int{0, 1, 16, 65} {
					c := x.Seal(key, nonce, text(k), text(n))
					if want := aead.Seal(key, twelve(nonce), text(k), text(n)); !bytes.Equal(c, want) {
						t.Errorf("P8.1: Seal of %d bytes, %d beside, nonce %d: %x, want %x", n, k, nonce, c, want)
					}
					checkOpens(t, "P8.1", x, key, nonce, text(k), c, text(n))
				}
			}
		}
	}
}

// TestRealHasNoMost holds that a real box seals what an ideal one does not.
func TestRealHasNoMost(t *testing.T) {
	x := box.New(api.Real, nil)
	for _, n := range []int{most - 1, most, most + 1, 3984, 3985, 4000, 4001, 65536, 1 << 18} {
		c := x.Seal(someKey(), 7, text(n), text(n))
		if !bytes.Equal(c, aead.Seal(someKey(), twelve(7), text(n), text(n))) {
			t.Errorf("P8.1: Seal of %d bytes: %d bytes, not aead's", n, len(c))
		}
		checkOpens(t, "P8.1", x, someKey(), 7, text(n), c, text(n))
	}
}

// TestRealOpenIsAead opens what no box sealed.
func TestRealOpenIsAead(t *testing.T) {
	x := box.New(api.Real, nil)
	for _, key := range keys() {
		for _, nonce := range nonces() {
			c := aead.Seal(key, twelve(nonce), text(9), text(50))
			checkOpens(t, "P8.1", x, key, nonce, text(9), c, text(50))
		}
		for n := range 40 {
			for _, c := range [][]byte{make([]byte, n), text(n), same(0xff, n)} {
				checkRefused(t, "P8.1: what nobody sealed", x, key, 5, text(9), c)
			}
		}
	}
}

// TestRealNonceIsTwelve holds that the four bytes ahead of the number are noughts, and that their other forms are refused.
func TestRealNonceIsTwelve(t *testing.T) {
	x := box.New(api.Real, nil)
	for _, nonce := range nonces() {
		for i := range 4 {
			bytes12 := twelve(nonce)
			bytes12[i] = 1
			checkRefused(t, "P8.1: no nought ahead", x, someKey(), nonce, nil, aead.Seal(someKey(), bytes12, nil, text(5)))
		}
	}
	for _, nonce := range below() {
		checkRefused(t, "P8.1: below 0", x, someKey(), nonce, nil, aead.Seal(someKey(), twelve(nonce), nil, text(5)))
	}
}

func TestRealMarkAndLabel(t *testing.T) {
	x := box.New(api.Real, nil)
	for _, key := range keys() {
		for _, name := range names() {
			mark, label := byLibrary(key, name), byLibrary(key, "\x01", name)
			if got := x.Mark(key, []byte(name)); got != mark || got != mac.HMAC(key[:], []byte(name)) {
				t.Errorf("P8.1: Mark of %d bytes: %x, want %x", len(name), got, mark)
			}
			if got := x.Label(key, name); got != label {
				t.Errorf("P8.1: Label of %d letters: %x, want %x", len(name), got, label)
			}
			if !x.Is(key, []byte(name), mark) || x.Is(key, []byte(name), label) {
				t.Errorf("P8.1: Is of %d bytes", len(name))
			}
			if !x.Is(key, []byte("\x01"+name), label) {
				t.Errorf("P8.1: Is of a byte 1 and %d bytes is not the label's", len(name))
			}
		}
	}
}

// TestRealIsUnasked holds that a real box tells marks that it never made.
func TestRealIsUnasked(t *testing.T) {
	for _, n := range lengths() {
		x := box.New(api.Real, nil)
		if !x.Is(someKey(), text(n), byLibrary(someKey(), string(text(n)))) || x.Is(someKey(), text(n), api.Hash{}) {
			t.Errorf("P8.1: Is of %d bytes, of a new box", n)
		}
	}
}

// TestRealTakesNothing holds that a real box leaves a tape that it is handed as it is, and keeps nothing.
func TestRealTakesNothing(t *testing.T) {
	y := tape.New(6)
	x, other := box.New(api.Real, y), box.New(api.Real, nil)
	for range 3 {
		for _, n := range lengths() {
			c := x.Seal(someKey(), 3, text(2), text(n))
			if !bytes.Equal(c, other.Seal(someKey(), 3, text(2), text(n))) {
				t.Errorf("P8.1: Seal of %d bytes hangs on the box", n)
			}
			checkOpens(t, "P8.1: another real box", other, someKey(), 3, text(2), c, text(n))
			if x.Mark(someKey(), text(n)) != other.Mark(someKey(), text(n)) ||
				x.Label(someKey(), string(text(n))) != other.Label(someKey(), string(text(n))) ||
				!other.Is(someKey(), text(n), x.Mark(someKey(), text(n))) {
				t.Errorf("P8.1: Mark, Label or Is of %d bytes hangs on the box", n)
			}
		}
	}
	if !bytes.Equal(y.Next(100), tape.New(6).Next(100)) {
		t.Error("P8.1: a real box took of the tape")
	}
}
