package aead_test

import (
	"bytes"
	"encoding/binary"
	"encoding/hex"
	"slices"
	"testing"

	"indenture/aead"
	"indenture/chacha"
	"indenture/poly"
)

// text is n bytes of which no two pieces are the same.
func text(n int) []byte {
	b := make([]byte, n)
	x := uint32(1)
	for i := range b {
		x = x*1664525 + 1013904223
		b[i] = byte(x >> 24)
	}
	return b
}

// same is n bytes of x.
func same(x byte, n int) []byte { return bytes.Repeat([]byte{x}, n) }

// raw is the bytes that a text of hex digits tells.
func raw(t *testing.T, s string) []byte {
	t.Helper()
	b, err := hex.DecodeString(s)
	if err != nil {
		t.Fatal(err)
	}
	return b
}

// someKey and someNonce are those of the tests at which any would do.
func someKey() [32]byte   { return [32]byte(text(32)) }
func someNonce() [12]byte { return [12]byte(text(44)[32:]) }

// keys are such of noughts alone, of ones alone, and others.
func keys() [][32]byte {
	return [][32]byte{{}, [32]byte(same(0xff, 32)), {0: 1}, {31: 0x80}, someKey()}
}

// nonces are such of noughts alone, of ones alone, and others.
func nonces() [][12]byte {
	return [][12]byte{{}, [12]byte(same(0xff, 12)), {0: 1}, {11: 0x80}, someNonce()}
}

// lengths are nothing, one byte, and those about the ends of the first pieces and blocks.
func lengths() []int {
	return []int{0, 1, 2, 7, 8, 14, 15, 16, 17, 18, 30, 31, 32, 33, 34, 47, 48, 49, 62, 63, 64, 65, 66, 127, 128, 129}
}

// tagText is what RFC 8439's 2.8 asks the tag of.
func tagText(ad, sealed []byte) []byte {
	var b []byte
	for _, part := range [][]byte{ad, sealed} {
		b = append(b, part...)
		for len(b)%16 != 0 {
			b = append(b, 0)
		}
	}
	b = binary.LittleEndian.AppendUint64(b, uint64(len(ad)))
	return binary.LittleEndian.AppendUint64(b, uint64(len(sealed)))
}

// stream is n bytes by which a text is sealed.
func stream(key [32]byte, nonce [12]byte, n int) []byte {
	var b []byte
	for counter := uint32(1); len(b) < n; counter++ {
		block := chacha.Block(key, counter, nonce)
		b = append(b, block[:]...)
	}
	return b[:n]
}

// xor is a and b, which is as long, byte by byte.
func xor(a, b []byte) []byte {
	out := bytes.Clone(a)
	for i, x := range b {
		out[i] ^= x
	}
	return out
}

// withTag is sealed with its tag behind it.
func withTag(key [32]byte, nonce [12]byte, ad, sealed []byte) []byte {
	block := chacha.Block(key, 0, nonce)
	tag := poly.Tag([32]byte(block[:32]), tagText(ad, sealed))
	return slices.Concat(sealed, tag[:])
}

// wantSeal is RFC 8439's 2.8.1.
func wantSeal(key [32]byte, nonce [12]byte, ad, b []byte) []byte {
	return withTag(key, nonce, ad, xor(b, stream(key, nonce, len(b))))
}

// checkSeal holds Seal against the RFC's form, and Open against what was sealed.
func checkSeal(t *testing.T, key [32]byte, nonce [12]byte, ad, b []byte) {
	t.Helper()
	c := aead.Seal(key, nonce, ad, b)
	if want := wantSeal(key, nonce, ad, b); !bytes.Equal(c, want) {
		t.Errorf("P6.1: Seal of %d bytes, %d beside: %x, want %x", len(b), len(ad), c, want)
	}
	checkOpens(t, key, nonce, ad, c, b)
}

// checkOpens holds that Open answers b.
func checkOpens(t *testing.T, key [32]byte, nonce [12]byte, ad, c, b []byte) {
	t.Helper()
	if got, ok := aead.Open(key, nonce, ad, c); !ok || !bytes.Equal(got, b) {
		t.Errorf("P6.1: Open of %d bytes, %d beside: %x, %v, want %x", len(c), len(ad), got, ok, b)
	}
}

// checkRefused holds that Open answers nil, false.
func checkRefused(t *testing.T, what string, key [32]byte, nonce [12]byte, ad, c []byte) {
	t.Helper()
	if got, ok := aead.Open(key, nonce, ad, c); got != nil || ok {
		t.Errorf("P6.1: Open of %d bytes, %d beside, %s: %x, %v, want nil, false", len(c), len(ad), what, got, ok)
	}
}

// TestOfTheRFC holds Seal and Open against 2.8.2 and A.5.
func TestOfTheRFC(t *testing.T) {
	for _, c := range []struct{ name, key, nonce, ad, b, sealed, tag string }{
		{"2.8.2", "808182838485868788898a8b8c8d8e8f909192939495969798999a9b9c9d9e9f",
			"070000004041424344454647", "50515253c0c1c2c3c4c5c6c7",
			"Ladies and Gentlemen of the class of '99: If I could offer you only one tip for the future, " +
				"sunscreen would be it.",
			"d31a8d34648e60db7b86afbc53ef7ec2a4aded51296e08fea9e2b5a736ee62d6" +
				"3dbea45e8ca9671282fafb69da92728b1a71de0a9e060b2905d6a5b67ecd3b36" +
				"92ddbd7f2d778b8c9803aee328091b58fab324e4fad675945585808b4831d7bc" +
				"3ff4def08e4b7a9de576d26586cec64b6116",
			"1ae10b594f09e26a7e902ecbd0600691"},
		{"A.5", "1c9240a5eb55d38af333888604f6b5f0473917c1402b80099dca5cbc207075c0",
			"000000000102030405060708", "f33388860000000000004e91",
			"Internet-Drafts are draft documents valid for a maximum of six months and may be updated, replaced, " +
				"or obsoleted by other documents at any time. It is inappropriate to use Internet-Drafts as " +
				"reference material or to cite them other than as /\u201cwork in progress./\u201d",
			"64a0861575861af460f062c79be643bd5e805cfd345cf389f108670ac76c8cb2" +
				"4c6cfc18755d43eea09ee94e382d26b0bdb7b73c321b0100d4f03b7f355894cf" +
				"332f830e710b97ce98c8a84abd0b948114ad176e008d33bd60f982b1ff37c855" +
				"9797a06ef4f0ef61c186324e2b3506383606907b6a7c02b0f9f6157b53c867e4" +
				"b9166c767b804d46a59b5216cde7a4e99040c5a40433225ee282a1b0a06c523e" +
				"af4534d7f83fa1155b0047718cbc546a0d072b04b3564eea1b422273f548271a" +
				"0bb2316053fa76991955ebd63159434ecebb4e466dae5a1073a6727627097a10" +
				"49e617d91d361094fa68f0ff77987130305beaba2eda04df997b714d6c6f2c29" +
				"a6ad5cb4022b02709b",
			"eead9d67890cbb22392336fea1851f38"},
	} {
		key, nonce, ad := [32]byte(raw(t, c.key)), [12]byte(raw(t, c.nonce)), raw(t, c.ad)
		if got := hex.EncodeToString(aead.Seal(key, nonce, ad, []byte(c.b))); got != c.sealed+c.tag {
			t.Errorf("P6.1: RFC 8439, %s, Seal: %s, want %s", c.name, got, c.sealed+c.tag)
		}
		checkOpens(t, key, nonce, ad, raw(t, c.sealed+c.tag), []byte(c.b))
		checkSeal(t, key, nonce, ad, []byte(c.b))
	}
}

func TestOfEveryLength(t *testing.T) {
	key, nonce := someKey(), someNonce()
	for n := range 140 {
		for _, k := range lengths() {
			checkSeal(t, key, nonce, text(k), text(n))
			checkSeal(t, key, nonce, text(n), text(k))
		}
	}
}

func TestOfEdges(t *testing.T) {
	for _, key := range keys() {
		for _, nonce := range nonces() {
			for _, n := range []int{0, 1, 16, 31, 64, 65} {
				for _, x := range []byte{0, 0xff} {
					checkSeal(t, key, nonce, same(x, n), same(x, 70))
					checkSeal(t, key, nonce, same(x, 20), same(x, n))
				}
			}
		}
	}
}

// TestOfLongTexts has lengths that fill more than one of their eight bytes.
func TestOfLongTexts(t *testing.T) {
	key, nonce := someKey(), someNonce()
	for _, n := range []int{255, 256, 257, 1000, 4095, 4096, 65535, 65536, 65537, 1<<18 + 5} {
		checkSeal(t, key, nonce, text(n), text(3))
		checkSeal(t, key, nonce, text(3), text(n))
		checkSeal(t, key, nonce, text(n), text(n))
	}
	if !testing.Short() {
		checkSeal(t, key, nonce, text(1<<24+1), nil)
		checkSeal(t, key, nonce, nil, text(1<<24+1))
	}
}

// TestNilIsEmpty hands in nothing in all its forms.
func TestNilIsEmpty(t *testing.T) {
	key, nonce := someKey(), someNonce()
	none := [][]byte{nil, {}, text(5)[:0], text(100)[:0]}
	for _, ad := range none {
		for _, b := range none {
			c := aead.Seal(key, nonce, ad, b)
			if !bytes.Equal(c, wantSeal(key, nonce, nil, nil)) || len(c) != 16 {
				t.Errorf("P0.4: Seal of nothing, nothing beside: %x", c)
			}
			for _, other := range none {
				checkOpens(t, key, nonce, other, c, nil)
			}
		}
		for _, n := range lengths() {
			if !bytes.Equal(aead.Seal(key, nonce, ad, text(n)), aead.Seal(key, nonce, nil, text(n))) {
				t.Errorf("P0.4: Seal of %d bytes, nothing beside: nil and empty are not the same", n)
			}
			if !bytes.Equal(aead.Seal(key, nonce, text(n), ad), aead.Seal(key, nonce, text(n), nil)) {
				t.Errorf("P0.4: Seal of nothing, %d bytes beside: nil and empty are not the same", n)
			}
			checkOpens(t, key, nonce, ad, aead.Seal(key, nonce, nil, text(n)), text(n))
		}
		checkRefused(t, "nothing", key, nonce, text(3), ad)
		checkRefused(t, "nothing", key, nonce, nil, ad)
	}
}

// TestTooShort hands in fewer bytes than a tag has, those of a true one among them.
func TestTooShort(t *testing.T) {
	for _, key := range keys() {
		for _, ad := range [][]byte{nil, text(1), text(16)} {
			whole := aead.Seal(key, someNonce(), ad, nil)
			for n := range 16 {
				for _, c := range [][]byte{whole[:n], whole[16-n:], make([]byte, n), text(n), same(0xff, n)} {
					checkRefused(t, "too short", key, someNonce(), ad, c)
				}
			}
		}
	}
}

// TestOfATagAlone holds that sixteen bytes are opened to nothing if they are the tag of nothing, and else refused.
func TestOfATagAlone(t *testing.T) {
	key, nonce := someKey(), someNonce()
	for _, k := range lengths() {
		ad := text(k)
		c := aead.Seal(key, nonce, ad, nil)
		checkOpens(t, key, nonce, ad, c, nil)
		for _, other := range [][]byte{make([]byte, 16), same(0xff, 16), text(16), aead.Seal(key, nonce, text(k+1), nil)} {
			checkRefused(t, "another tag", key, nonce, ad, other)
		}
	}
}

// eachBit hands f each form of b in which one bit is turned.
func eachBit(b []byte, f func(turned []byte)) {
	for bit := range 8 * len(b) {
		turned := bytes.Clone(b)
		turned[bit/8] ^= 1 << (bit % 8)
		f(turned)
	}
}

// TestEveryBitCounts turns each bit of all that is handed to Open.
func TestEveryBitCounts(t *testing.T) {
	key, nonce := someKey(), someNonce()
	for _, n := range []int{0, 1, 15, 16, 17, 32, 64, 65} {
		for _, k := range []int{0, 1, 15, 16, 17, 33} {
			ad := text(k)
			c := aead.Seal(key, nonce, ad, text(n))
			eachBit(c, func(turned []byte) { checkRefused(t, "a bit turned", key, nonce, ad, turned) })
			eachBit(ad, func(turned []byte) { checkRefused(t, "a bit of ad turned", key, nonce, turned, c) })
			eachBit(key[:], func(turned []byte) {
				checkRefused(t, "a bit of the key turned", [32]byte(turned), nonce, ad, c)
			})
			eachBit(nonce[:], func(turned []byte) {
				checkRefused(t, "a bit of the nonce turned", key, [12]byte(turned), ad, c)
			})
		}
	}
}

// TestTwoBytesOfTheTag holds that two differences do not make up for one another.
func TestTwoBytesOfTheTag(t *testing.T) {
	key, nonce := someKey(), someNonce()
	c := aead.Seal(key, nonce, text(20), text(40))
	for i := range 16 {
		for k := range i {
			for _, x := range []byte{1, 0x80, 0xff} {
				d, e := bytes.Clone(c), bytes.Clone(c)
				d[40+i] ^= x
				d[40+k] ^= x
				checkRefused(t, "two bytes of the tag turned", key, nonce, text(20), d)
				e[40+i] += x
				e[40+k] -= x
				checkRefused(t, "two bytes of the tag moved", key, nonce, text(20), e)
			}
		}
	}
}

// TestEveryBitIsSealed holds that Seal tells each bit of ad, the key and the nonce by its tag.
func TestEveryBitIsSealed(t *testing.T) {
	key, nonce, ad, b := someKey(), someNonce(), text(35), text(50)
	seen := map[string]int{}
	tell := func(c []byte) { seen[string(c[len(b):])]++ }
	tell(aead.Seal(key, nonce, ad, b))
	eachBit(key[:], func(turned []byte) { tell(aead.Seal([32]byte(turned), nonce, ad, b)) })
	eachBit(nonce[:], func(turned []byte) { tell(aead.Seal(key, [12]byte(turned), ad, b)) })
	eachBit(ad, func(turned []byte) { tell(aead.Seal(key, nonce, turned, b)) })
	eachBit(b, func(turned []byte) { tell(aead.Seal(key, nonce, ad, turned)) })
	if want := 1 + 8*(32+12+len(ad)+len(b)); len(seen) != want {
		t.Errorf("P6.1: %d tags of %d", len(seen), want)
	}
}

// TestCutOffOrLonger cuts c and ad at both ends, and puts bytes ahead of them and behind.
func TestCutOffOrLonger(t *testing.T) {
	key, nonce := someKey(), someNonce()
	for _, n := range []int{0, 1, 15, 16, 17, 32, 48, 64, 65} {
		for _, k := range []int{0, 1, 15, 16, 17, 32, 33} {
			ad := text(k)
			c := aead.Seal(key, nonce, ad, text(n))
			for i := range len(c) {
				checkRefused(t, "cut off", key, nonce, ad, c[:i])
				checkRefused(t, "cut off ahead", key, nonce, ad, c[len(c)-i:])
			}
			for i := range n {
				checkRefused(t, "cut off ahead of the tag", key, nonce, ad, slices.Concat(c[:i], c[n:]))
			}
			for i := range k {
				checkRefused(t, "ad cut off", key, nonce, ad[:i], c)
				checkRefused(t, "ad cut off ahead", key, nonce, ad[k-i:], c)
			}
			for i := 1; i <= 33; i++ {
				for _, more := range [][]byte{make([]byte, i), text(i)} {
					checkRefused(t, "longer", key, nonce, ad, slices.Concat(c, more))
					checkRefused(t, "longer ahead", key, nonce, ad, slices.Concat(more, c))
					checkRefused(t, "longer ahead of the tag", key, nonce, ad, slices.Concat(c[:n], more, c[n:]))
					checkRefused(t, "ad longer", key, nonce, slices.Concat(ad, more), c)
					checkRefused(t, "ad longer ahead", key, nonce, slices.Concat(more, ad), c)
				}
			}
		}
	}
}

// pieces is what a tag is asked of, but for the lengths.
func pieces(ad, sealed []byte) string {
	b := tagText(ad, sealed)
	return string(b[:len(b)-16])
}

// checkToldApart holds that two that are alike but for their lengths have tags of their own, and are not opened by the
// other's.
func checkToldApart(t *testing.T, ad, sealed, otherAd, otherSealed []byte) {
	t.Helper()
	key, nonce := someKey(), someNonce()
	if pieces(ad, sealed) != pieces(otherAd, otherSealed) {
		t.Fatalf("%d and %d bytes, %d and %d bytes: more than the lengths tells them apart",
			len(ad), len(sealed), len(otherAd), len(otherSealed))
	}
	seal := func(ad, sealed []byte) []byte {
		b := xor(sealed, stream(key, nonce, len(sealed)))
		c := aead.Seal(key, nonce, ad, b)
		if !bytes.Equal(c[:len(sealed)], sealed) {
			t.Errorf("P6.1: Seal of %d bytes, %d beside: %x", len(b), len(ad), c)
		}
		checkOpens(t, key, nonce, ad, c, b)
		return c[len(sealed):]
	}
	tag, otherTag := seal(ad, sealed), seal(otherAd, otherSealed)
	if bytes.Equal(tag, otherTag) {
		t.Errorf("P6.1: %d and %d bytes, %d and %d bytes: one tag", len(ad), len(sealed), len(otherAd), len(otherSealed))
	}
	checkRefused(t, "the other's tag", key, nonce, ad, slices.Concat(sealed, otherTag))
	checkRefused(t, "the other's tag", key, nonce, otherAd, slices.Concat(otherSealed, tag))
}

// TestMovedBytes moves whole pieces from ad to what is sealed and back.
func TestMovedBytes(t *testing.T) {
	for whole := 16; whole <= 96; whole += 16 {
		for _, rest := range []int{0, 1, 15} {
			b := text(whole + rest)
			for at := 0; at <= whole; at += 16 {
				for other := range at / 16 {
					checkToldApart(t, b[:at], b[at:], b[:16*other], b[16*other:])
				}
			}
		}
	}
}

// TestSwapped has ad and what is sealed stand where the other stood.
func TestSwapped(t *testing.T) {
	for _, n := range lengths()[1:] {
		checkToldApart(t, text(n), nil, nil, text(n))
	}
	for _, n := range []int{1, 15, 16} {
		for _, k := range []int{32, 33, 64} {
			checkToldApart(t, make([]byte, n), make([]byte, k), make([]byte, k), make([]byte, n))
		}
	}
}

// TestNoughts has noughts at the end of ad and of what is sealed, where others are filled in.
func TestNoughts(t *testing.T) {
	for _, front := range []int{0, 1, 5, 16, 17, 32, 40} {
		room := 16 - front%16
		if front%16 == 0 {
			room = 15
		}
		for n := 1; n <= room; n++ {
			for fewer := range n {
				if front%16 == 0 && fewer == 0 {
					continue
				}
				long, short := slices.Concat(text(front), make([]byte, n)), slices.Concat(text(front), make([]byte, fewer))
				for _, beside := range [][]byte{nil, text(3), text(16)} {
					checkToldApart(t, long, beside, short, beside)
					checkToldApart(t, beside, long, beside, short)
				}
				checkToldApart(t, long, short, short, long)
			}
		}
	}
}

// TestNoughtsMoved moves noughts that fill ad up to what is sealed, so that the bytes stand as they stood.
func TestNoughtsMoved(t *testing.T) {
	for _, n := range []int{1, 15} {
		checkToldApart(t, slices.Concat(text(n), make([]byte, 16-n), make([]byte, 16)), nil, text(n), make([]byte, 16))
		checkToldApart(t, slices.Concat(text(n), make([]byte, 16-n)), text(16), text(n), text(16))
		checkToldApart(t, text(16), make([]byte, 16), slices.Concat(text(16), []byte{0}), nil)
		checkToldApart(t, nil, slices.Concat(text(n), make([]byte, 16-n), text(9)), text(n), text(9))
	}
}

// TestLongLengths holds that the upper bytes of the lengths count.
func TestLongLengths(t *testing.T) {
	for _, n := range []int{256, 512, 1 << 16} {
		checkToldApart(t, text(n), nil, nil, text(n))
		checkToldApart(t, text(n + 16)[:n], text(n + 16)[n:], text(n + 16)[:n-256], text(n + 16)[n-256:])
	}
}

// TestForgedByNothing hands in what nobody sealed, with tags that a wrong sum might have.
func TestForgedByNothing(t *testing.T) {
	for _, key := range keys() {
		for _, nonce := range nonces() {
			block := chacha.Block(key, 0, nonce)
			for _, tag := range [][]byte{make([]byte, 16), same(0xff, 16), block[16:32], block[:16], text(16)} {
				checkRefused(t, "a forged tag", key, nonce, nil, tag)
				checkRefused(t, "a forged tag", key, nonce, text(5), slices.Concat(text(30), tag))
			}
		}
	}
}

// spare answers b with spare room behind it that is filled with fill.
func spare(b []byte, fill byte) []byte {
	return append(bytes.Clone(b), same(fill, 100)...)[:len(b)]
}

// full is b with its spare room.
func full(b []byte) []byte { return b[:cap(b)] }

// turn changes all of b, its spare room too.
func turn(b []byte) {
	for i := range full(b) {
		full(b)[i] ^= 0xff
	}
}

// TestArgumentsStay hands in lists with spare room and looks at all of it behind the calls.
func TestArgumentsStay(t *testing.T) {
	key, nonce := someKey(), someNonce()
	for _, n := range lengths() {
		for _, k := range []int{0, 1, 15, 16, 17, 40} {
			for _, fill := range []byte{0, 0xa5} {
				want := wantSeal(key, nonce, text(k), text(n))
				wrong := xor(want, slices.Concat(make([]byte, n), text(16)))
				lists := [][]byte{spare(text(k), fill), spare(text(n), fill), spare(want, fill), spare(wrong, fill)}
				before := make([]string, len(lists))
				for i, l := range lists {
					before[i] = string(full(l))
				}
				ad, b, c, d := lists[0], lists[1], lists[2], lists[3]
				if got := aead.Seal(key, nonce, ad, b); !bytes.Equal(got, want) {
					t.Errorf("P0.3: Seal of %d bytes, %d beside, hangs on spare room: %x", n, k, got)
				}
				checkOpens(t, key, nonce, ad, c, text(n))
				checkRefused(t, "another tag", key, nonce, ad, d)
				checkRefused(t, "cut off", key, nonce, ad, c[:len(c)-1])
				checkRefused(t, "too short", key, nonce, ad, c[:min(len(c), 15)])
				for i, l := range lists {
					if string(full(l)) != before[i] {
						t.Errorf("P0.3: %d bytes, %d beside: the list %d was changed", n, k, i)
					}
				}
			}
		}
	}
}

// TestOneMemory hands in lists that are pieces of one, so that what is put behind one is to be seen in the next.
func TestOneMemory(t *testing.T) {
	key, nonce := someKey(), someNonce()
	for _, n := range lengths() {
		whole := text(2*n + 200)
		ad, b := whole[:n], whole[n:2*n]
		if got := aead.Seal(key, nonce, ad, b); !bytes.Equal(got, wantSeal(key, nonce, text(n), text(2 * n)[n:])) {
			t.Errorf("P6.1: Seal of pieces of one list, %d bytes each: %x", n, got)
		}
		checkSeal(t, key, nonce, b, b)
		if !bytes.Equal(whole, text(2*n+200)) {
			t.Errorf("P0.3: Seal of %d bytes changed what stands behind a list", n)
		}
		copy(whole[n:], wantSeal(key, nonce, ad, text(n)))
		before := bytes.Clone(whole)
		checkOpens(t, key, nonce, ad, whole[n:2*n+16], text(n))
		if !bytes.Equal(whole, before) {
			t.Errorf("P0.3: Open of %d bytes changed what stands behind a list", n)
		}
	}
}

// TestAnswersAreNewMemory writes into what was handed in and what was answered, all its room.
func TestAnswersAreNewMemory(t *testing.T) {
	key, nonce := someKey(), someNonce()
	for _, n := range lengths() {
		ad, b := spare(text(20), 0xa5), spare(text(n), 0xa5)
		want := wantSeal(key, nonce, text(20), text(n))
		one, two := aead.Seal(key, nonce, ad, b), aead.Seal(key, nonce, ad, b)
		turn(one)
		if !bytes.Equal(full(ad), full(spare(text(20), 0xa5))) || !bytes.Equal(full(b), full(spare(text(n), 0xa5))) {
			t.Errorf("P0.3: what Seal of %d bytes answers is what was handed in", n)
		}
		turn(ad)
		turn(b)
		if !bytes.Equal(two, want) || !bytes.Equal(aead.Seal(key, nonce, text(20), text(n)), want) {
			t.Errorf("P0.3: Seal of %d bytes answers memory that it keeps, or keeps what was handed in", n)
		}
		c := spare(want, 0xa5)
		first, _ := aead.Open(key, nonce, text(20), c)
		second, _ := aead.Open(key, nonce, text(20), c)
		turn(first)
		if !bytes.Equal(full(c), full(spare(want, 0xa5))) {
			t.Errorf("P0.3: what Open of %d bytes answers is what was handed in", n)
		}
		turn(c)
		if !bytes.Equal(second, text(n)) {
			t.Errorf("P0.3: Open of %d bytes answers memory that it keeps, or keeps what was handed in", n)
		}
		checkOpens(t, key, nonce, text(20), want, text(n))
	}
}

// TestNothingIsKept asks the same between other calls.
func TestNothingIsKept(t *testing.T) {
	key, nonce := someKey(), someNonce()
	c := aead.Seal(key, nonce, text(9), text(100))
	for _, other := range keys()[:4] {
		d := aead.Seal(other, nonce, text(40), text(70))
		checkOpens(t, other, nonce, text(40), d, text(70))
		checkRefused(t, "another's", key, nonce, text(40), d)
		if !bytes.Equal(aead.Seal(key, nonce, text(9), text(100)), c) {
			t.Error("P0.5: what Seal answers hangs on the calls before")
		}
		checkRefused(t, "another's", other, nonce, text(9), c)
		checkOpens(t, key, nonce, text(9), c, text(100))
	}
}

func FuzzSeal(f *testing.F) {
	f.Add(text(32), text(12), []byte("beside"), []byte("a message"), 3)
	f.Add(same(0xff, 32), same(0, 12), text(16), text(130), -1)
	f.Fuzz(func(t *testing.T, k, n, ad, b []byte, at int) {
		var key [32]byte
		var nonce [12]byte
		copy(key[:], k)
		copy(nonce[:], n)
		checkSeal(t, key, nonce, ad, b)
		c := aead.Seal(key, nonce, ad, b)
		bit := int(uint(at) % uint(8*len(c)))
		c[bit/8] ^= 1 << (bit % 8)
		checkRefused(t, "a bit turned", key, nonce, ad, c)
	})
}

func FuzzOpen(f *testing.F) {
	f.Add(text(32), text(12), []byte("beside"), text(40))
	f.Add([]byte{}, []byte{}, []byte{}, text(15))
	f.Fuzz(func(t *testing.T, k, n, ad, c []byte) {
		var key [32]byte
		var nonce [12]byte
		copy(key[:], k)
		copy(nonce[:], n)
		end := max(0, len(c)-16)
		if bytes.Equal(c, withTag(key, nonce, ad, c[:end])) {
			checkOpens(t, key, nonce, ad, c, xor(c[:end], stream(key, nonce, end)))
		} else {
			checkRefused(t, "another tag", key, nonce, ad, c)
		}
	})
}
