package mac_test

import (
	"bytes"
	"crypto/hkdf"
	"crypto/hmac"
	"crypto/sha256"
	"encoding/hex"
	"math"
	"strings"
	"testing"

	"indenture/api"
	"indenture/mac"
)

const most = 255 * 32

// text is n bytes of which no two blocks are the same.
func text(n int) []byte {
	b := make([]byte, n)
	x := uint32(1)
	for i := range b {
		x = x*1664525 + 1013904223
		b[i] = byte(x >> 24)
	}
	return b
}

// raw is the bytes that a text of hex digits tells.
func raw(t *testing.T, s string) []byte {
	t.Helper()
	b, err := hex.DecodeString(s)
	if err != nil {
		t.Fatal(err)
	}
	return b
}

// wantMAC is what the library gives of the parts, one behind the other.
func wantMAC(key []byte, parts ...[]byte) api.Hash {
	h := hmac.New(sha256.New, key)
	h.Write(bytes.Join(parts, nil))
	return api.Hash(h.Sum(nil))
}

// wantExpand is what the library gives.
func wantExpand(t *testing.T, key, info []byte, n int) []byte {
	t.Helper()
	b, err := hkdf.Expand(sha256.New, key, string(info), n)
	if err != nil {
		t.Fatal(err)
	}
	return b
}

// checkMAC holds HMAC against the library's.
func checkMAC(t *testing.T, key []byte, parts ...[]byte) {
	t.Helper()
	if got, want := mac.HMAC(key, parts...), wantMAC(key, parts...); got != want {
		t.Errorf("P3.1: HMAC, a key of %d bytes, %d parts: %x, want %x", len(key), len(parts), got, want)
	}
}

// checkExpand holds Expand against the library's.
func checkExpand(t *testing.T, key, info []byte, n int) {
	t.Helper()
	got, want := mac.Expand(key, info, n), wantExpand(t, key, info, n)
	if !bytes.Equal(got, want) {
		t.Errorf("P3.1: Expand, a key of %d bytes, info of %d, n %d: %d bytes, %x", len(key), len(info), n, len(got), got)
	}
}

func TestRFC4231(t *testing.T) {
	for i, c := range []struct{ key, text, sum string }{
		{strings.Repeat("0b", 20), hex.EncodeToString([]byte("Hi There")),
			"b0344c61d8db38535ca8afceaf0bf12b881dc200c9833da726e9376c2e32cff7"},
		{hex.EncodeToString([]byte("Jefe")), hex.EncodeToString([]byte("what do ya want for nothing?")),
			"5bdcc146bf60754e6a042426089575c75a003f089d2739839dec58b964ec3843"},
		{strings.Repeat("aa", 20), strings.Repeat("dd", 50),
			"773ea91e36800e46854db8ebd09181a72959098b3ef8c122d9635514ced565fe"},
		{"0102030405060708090a0b0c0d0e0f10111213141516171819", strings.Repeat("cd", 50),
			"82558a389a443c0ea4cc819899f2083a85f0faa3e578f8077a2e3ff46729665b"},
		{strings.Repeat("0c", 20), hex.EncodeToString([]byte("Test With Truncation")),
			"a3b6167473100ee06e0c796c2955552b"},
		{strings.Repeat("aa", 131), hex.EncodeToString([]byte("Test Using Larger Than Block-Size Key - Hash Key First")),
			"60e431591ee0b67f0d8a26aacbf5b77f8e0bc6213728c5140546040f0ee37f54"},
		{strings.Repeat("aa", 131), hex.EncodeToString([]byte("This is a test using a larger than block-size key and a larger than block-size data. " +
			"The key needs to be hashed before being used by the HMAC algorithm.")),
			"9b09ffa71b942fcb27635fbcd5b0e944bfdc63644f0713938a7f51535c3a35e2"},
	} {
		got := mac.HMAC(raw(t, c.key), raw(t, c.text))
		if !strings.HasPrefix(hex.EncodeToString(got[:]), c.sum) {
			t.Errorf("P3.1: RFC 4231, case %d: %x, want %s", i+1, got, c.sum)
		}
	}
}

func TestRFC5869(t *testing.T) {
	for i, c := range []struct{ secret, salt, info, prk, okm string }{
		{strings.Repeat("0b", 22), "000102030405060708090a0b0c", "f0f1f2f3f4f5f6f7f8f9",
			"077709362c2e32df0ddc3f0dc47bba6390b6c73bb50f9c3122ec844ad7c2b3e5",
			"3cb25f25faacd57a90434f64d0362f2a2d2d0a90cf1a5a4c5db02d56ecc4c5bf34007208d5b887185865"},
		{upTo(0x00, 0x4f), upTo(0x60, 0xaf), upTo(0xb0, 0xff),
			"06a6b88c5853361a06104c9ceb35b45cef760014904671014a193f40c15fc244",
			"b11e398dc80327a1c8e7f78c596a49344f012eda2d4efad8a050cc4c19afa97c" +
				"59045a99cac7827271cb41c65e590e09da3275600c2f09b8367793a9aca3db71" +
				"cc30c58179ec3e87c14c01d5c1f3434f1d87"},
		{strings.Repeat("0b", 22), "", "",
			"19ef24a32c717b167f33a91d6f648bdf96596776afdb6377ac434c1c293ccb04",
			"8da4e775a563c18f715f802a063c5a31b8a11f5c5ee1879ec3454e5f3c738d2d9d201395faa4b61a96c8"},
	} {
		prk := mac.Extract(raw(t, c.salt), raw(t, c.secret))
		if hex.EncodeToString(prk[:]) != c.prk {
			t.Errorf("P3.1: RFC 5869, A.%d, Extract: %x, want %s", i+1, prk, c.prk)
		}
		okm := mac.Expand(raw(t, c.prk), raw(t, c.info), len(c.okm)/2)
		if hex.EncodeToString(okm) != c.okm {
			t.Errorf("P3.1: RFC 5869, A.%d, Expand: %x, want %s", i+1, okm, c.okm)
		}
	}
}

// upTo is the bytes from a to z as hex digits.
func upTo(a, z int) string {
	var b []byte
	for x := a; x <= z; x++ {
		b = append(b, byte(x))
	}
	return hex.EncodeToString(b)
}

// TestKeyOfEveryLength goes over the end of the key's block, behind which a key is its sum.
func TestKeyOfEveryLength(t *testing.T) {
	for n := range 260 {
		for _, key := range [][]byte{text(n), make([]byte, n), bytes.Repeat([]byte{0xff}, n)} {
			checkMAC(t, key)
			checkMAC(t, key, []byte("some text"))
			checkMAC(t, key, text(200))
		}
	}
}

func TestLongKeyIsItsSum(t *testing.T) {
	message := []byte("a message")
	for _, n := range []int{65, 66, 127, 128, 129, 1000, 1 << 20} {
		sum := sha256.Sum256(text(n))
		if mac.HMAC(text(n), message) != mac.HMAC(sum[:], message) {
			t.Errorf("P3.1: a key of %d bytes is not its sum", n)
		}
	}
	for _, n := range []int{63, 64} {
		sum := sha256.Sum256(text(n))
		if mac.HMAC(text(n), message) == mac.HMAC(sum[:], message) {
			t.Errorf("P3.1: a key of %d bytes is its sum", n)
		}
	}
}

func TestNoKeyAndNoParts(t *testing.T) {
	want, err := hex.DecodeString("b613679a0814d9ec772f95d778c35fc5ff1697c493715653c6c712144292c5ad")
	if err != nil {
		t.Fatal(err)
	}
	for name, got := range map[string]api.Hash{
		"nil, no parts": mac.HMAC(nil), "empty, no parts": mac.HMAC([]byte{}),
		"nil, nil": mac.HMAC(nil, nil), "nil, empty": mac.HMAC(nil, []byte{}),
		"several of nothing":   mac.HMAC([]byte{}, nil, []byte{}, nil),
		"Extract, nil, nil":    mac.Extract(nil, nil),
		"Extract, empty":       mac.Extract([]byte{}, []byte{}),
		"a key of 64 noughts":  mac.HMAC(make([]byte, 64)),
		"Extract, 32 of salt":  mac.Extract(make([]byte, 32), nil),
		"no parts, as a list":  mac.HMAC(nil, [][]byte{}...),
		"nil list of no parts": mac.HMAC(nil, [][]byte(nil)...),
	} {
		if got != api.Hash(want) {
			t.Errorf("P3.1: nothing, by no key, %s: %x", name, got)
		}
	}
	checkMAC(t, nil, text(100))
	checkMAC(t, text(20), nil, []byte{})
}

func TestMessageOfEveryLength(t *testing.T) {
	for n := range 260 {
		checkMAC(t, []byte("key"), text(n))
	}
	for _, n := range []int{4096, 1 << 16, 1 << 20} {
		checkMAC(t, text(70), text(n))
	}
}

func TestParts(t *testing.T) {
	key, whole := text(40), text(150)
	for i := range len(whole) + 1 {
		checkMAC(t, key, whole[:i], whole[i:])
		checkMAC(t, key, nil, whole[:i], nil, []byte{}, whole[i:], nil)
		for j := i; j <= len(whole); j += 11 {
			checkMAC(t, key, whole[:i], whole[i:j], whole[j:])
		}
	}
	for size := 1; size <= 70; size++ {
		var parts [][]byte
		for at := 0; at < len(whole); at += size {
			parts = append(parts, whole[at:min(at+size, len(whole))], nil)
		}
		checkMAC(t, key, parts...)
	}
}

func TestWhatIsTold(t *testing.T) {
	a, b := []byte("ab"), []byte("c")
	if mac.HMAC(a, a, b) != mac.HMAC(a, []byte("a"), []byte("bc")) {
		t.Error("P3.1: where the parts meet is to be seen")
	}
	if mac.HMAC(a, a, b) == mac.HMAC(a, b, a) || mac.HMAC(a, b) == mac.HMAC(b, a) {
		t.Error("P3.1: the order is not to be seen")
	}
}

func TestExtract(t *testing.T) {
	for _, n := range []int{0, 1, 31, 32, 33, 63, 64, 65, 100} {
		for _, m := range []int{0, 1, 22, 32, 64, 65, 200} {
			salt, secret := text(n), bytes.Repeat([]byte{7}, m)
			want, err := hkdf.Extract(sha256.New, secret, salt)
			if err != nil {
				t.Fatal(err)
			}
			if got := mac.Extract(salt, secret); got != api.Hash(want) || got != mac.HMAC(salt, secret) {
				t.Errorf("P3.1: Extract, salt of %d, secret of %d: %x, want %x", n, m, got, want)
			}
		}
	}
}

// TestExpandOfEveryLength holds that fewer bytes are the beginning of more, and that none are too many.
func TestExpandOfEveryLength(t *testing.T) {
	key, info := text(32), []byte("what for")
	long := wantExpand(t, key, info, most)
	for n := 1; n <= 300; n++ {
		if got := mac.Expand(key, info, n); !bytes.Equal(got, long[:n]) {
			t.Errorf("P3.1: Expand of %d: %x", n, got)
		}
	}
	for _, n := range []int{1, 31, 32, 33, 4096, 8127, 8128, 8129, 8159, 8160} {
		if got := mac.Expand(key, info, n); !bytes.Equal(got, long[:n]) {
			t.Errorf("P3.1: Expand of %d: %d bytes, %x", n, len(got), got)
		}
	}
}

func TestExpandByItsRule(t *testing.T) {
	key, info := text(20), text(50)
	got := mac.Expand(key, info, most)
	if len(got) != most {
		t.Fatalf("P3.1: Expand of %d: %d bytes", most, len(got))
	}
	var last []byte
	for i := 1; i <= 255; i++ {
		want := wantMAC(key, last, info, []byte{byte(i)})
		last = got[32*(i-1) : 32*i]
		if !bytes.Equal(last, want[:]) {
			t.Errorf("P3.1: T(%d): %x, want %x", i, last, want)
		}
	}
}

func TestExpandKeysAndInfos(t *testing.T) {
	for _, n := range []int{0, 1, 32, 63, 64, 65, 200} {
		for _, m := range []int{0, 1, 22, 23, 32, 63, 64, 65, 200} {
			checkExpand(t, text(n), bytes.Repeat([]byte{9}, m), 100)
		}
	}
	checkExpand(t, nil, nil, most)
	checkExpand(t, text(1<<20), text(1<<12), most)
	if !bytes.Equal(mac.Expand(nil, nil, 33), mac.Expand([]byte{}, []byte{}, 33)) {
		t.Error("P0.4: nil and empty are not the same to Expand")
	}
}

func TestExpandWrong(t *testing.T) {
	for _, n := range []int{0, -1, -32, -8160, 8161, 8192, 8193, 1 << 16, 1 << 32, 1<<32 + 1, 1<<32 + 32,
		math.MinInt, math.MinInt + 1, math.MinInt + 32, math.MinInt32, math.MaxInt32, math.MaxInt - 1, math.MaxInt} {
		for _, key := range [][]byte{nil, {}, text(32), text(100)} {
			if got := mac.Expand(key, nil, n); got != nil {
				t.Errorf("P3.1: Expand of %d: %d bytes, want nil", n, len(got))
			}
			if got := mac.Expand(key, []byte("info"), n); got != nil {
				t.Errorf("P3.1: Expand of %d: %d bytes, want nil", n, len(got))
			}
		}
	}
}

func TestSameOfOneBit(t *testing.T) {
	for n := range 80 {
		a, b := text(n), text(n)
		if !mac.Same(a, b) || !mac.Same(a, a) {
			t.Errorf("P3.1: Same of alike ones of %d bytes", n)
		}
		for bit := range 8 * n {
			b[bit/8] ^= 1 << (bit % 8)
			if mac.Same(a, b) || mac.Same(b, a) {
				t.Errorf("P3.1: Same, of %d bytes, the bit %d unlike", n, bit)
			}
			b[bit/8] ^= 1 << (bit % 8)
		}
	}
}

// TestSameOfTwoBytes holds that two differences do not make up for one another.
func TestSameOfTwoBytes(t *testing.T) {
	a := text(20)
	for i := range a {
		for j := range i {
			for _, x := range []byte{1, 0x80, 0xff} {
				b := text(20)
				b[i] ^= x
				b[j] ^= x
				if mac.Same(a, b) {
					t.Errorf("P3.1: Same, the bytes %d and %d unlike", j, i)
				}
				b = text(20)
				b[i] += x
				b[j] -= x
				if mac.Same(a, b) {
					t.Errorf("P3.1: Same, the bytes %d and %d unlike", j, i)
				}
			}
		}
	}
	if mac.Same([]byte{1, 2}, []byte{2, 1}) {
		t.Error("P3.1: Same of another order")
	}
}

func TestSameOfUnlikeLengths(t *testing.T) {
	for _, whole := range [][]byte{text(300), make([]byte, 300)} {
		for i := range 70 {
			for j := range 70 {
				if got := mac.Same(whole[:i], whole[:j]); got != (i == j) {
					t.Errorf("P3.1: Same of %d and %d bytes: %v", i, j, got)
				}
			}
		}
		if mac.Same(whole[:1], whole[:257]) || mac.Same(nil, whole[:256]) || mac.Same(whole[:256], nil) {
			t.Error("P3.1: Same of lengths that are alike in their last byte")
		}
	}
}

func TestSameOfNothing(t *testing.T) {
	for _, none := range [][]byte{nil, {}, text(5)[:0]} {
		if !mac.Same(none, nil) || !mac.Same(nil, none) || !mac.Same(none, []byte{}) || !mac.Same([]byte{}, none) {
			t.Error("P3.1: Same of nothing and nothing")
		}
		if mac.Same(none, []byte{0}) || mac.Same([]byte{0}, none) {
			t.Error("P3.1: Same of nothing and something")
		}
	}
}

// spare answers b with spare room behind it that is filled with fill.
func spare(b []byte, fill byte) []byte {
	return append(bytes.Clone(b), bytes.Repeat([]byte{fill}, 200)...)[:len(b)]
}

// full is b with its spare room.
func full(b []byte) []byte { return b[:cap(b)] }

// TestArgumentsStay hands in lists with spare room and looks at all of it behind the call.
func TestArgumentsStay(t *testing.T) {
	for _, n := range []int{0, 1, 31, 32, 63, 64, 65, 130} {
		key, other := spare(text(n), 0xa5), spare(text(n), 0x5a)
		keyBefore, otherBefore := bytes.Clone(full(key)), bytes.Clone(full(other))
		if mac.HMAC(key, other, key) != wantMAC(text(n), text(n), text(n)) {
			t.Errorf("P0.3: HMAC hangs on spare room, %d bytes", n)
		}
		if mac.Extract(key, other) != wantMAC(text(n), text(n)) {
			t.Errorf("P0.3: Extract hangs on spare room, %d bytes", n)
		}
		if !bytes.Equal(mac.Expand(key, other, 100), wantExpand(t, text(n), text(n), 100)) {
			t.Errorf("P0.3: Expand hangs on spare room, %d bytes", n)
		}
		if !mac.Same(key, other) {
			t.Errorf("P0.3: Same hangs on spare room, %d bytes", n)
		}
		if !bytes.Equal(full(key), keyBefore) || !bytes.Equal(full(other), otherBefore) {
			t.Errorf("P0.3: a list of %d bytes was changed", n)
		}
	}
}

// TestOneMemory hands in lists that are pieces of one, so that what is put behind one is to be seen in the next.
func TestOneMemory(t *testing.T) {
	b := text(300)
	key, info, more := b[:40], b[40:90], b[90:]
	if mac.HMAC(key, info, more) != wantMAC(text(300)[:40], text(300)[40:]) {
		t.Error("P3.1: HMAC of pieces of one list")
	}
	if !bytes.Equal(mac.Expand(key, info, 500), wantExpand(t, text(300)[:40], text(300)[40:90], 500)) {
		t.Error("P3.1: Expand of pieces of one list")
	}
	if !bytes.Equal(b, text(300)) {
		t.Error("P0.3: what stands behind a list was changed")
	}
}

func TestListOfPartsStays(t *testing.T) {
	b := text(200)
	room := [][]byte{b[:70], nil, b[70:], []byte("behind")}
	parts := room[:3]
	if mac.HMAC(nil, parts...) != wantMAC(nil, b) {
		t.Error("P3.1: HMAC of a list of parts")
	}
	if len(parts[0]) != 70 || &parts[0][0] != &b[0] || parts[1] != nil || len(parts[2]) != 130 ||
		&parts[2][0] != &b[70] || string(room[3]) != "behind" {
		t.Error("P0.3: the list of parts was changed")
	}
}

func TestExpandAnswersNewMemory(t *testing.T) {
	for _, n := range []int{1, 31, 32, 33, most} {
		key, info := text(32), text(50)
		want := wantExpand(t, key, info, n)
		a, b := mac.Expand(key, info, n), mac.Expand(key, info, n)
		for _, l := range [][]byte{full(a), key, info} {
			for i := range l {
				l[i] ^= 0xff
			}
		}
		if !bytes.Equal(b, want) || !bytes.Equal(mac.Expand(text(32), text(50), n), want) {
			t.Errorf("P0.3: Expand of %d answers memory that it keeps, or keeps what was handed in", n)
		}
	}
}

func FuzzHMAC(f *testing.F) {
	f.Add([]byte("key"), []byte("a message"), 3)
	f.Add(text(65), text(130), 64)
	f.Fuzz(func(t *testing.T, key, b []byte, i int) {
		i = max(0, min(i, len(b)))
		checkMAC(t, key, b[:i], b[i:])
		if mac.Same(key, b) != bytes.Equal(key, b) {
			t.Errorf("P3.1: Same of %x and %x", key, b)
		}
	})
}

func FuzzExpand(f *testing.F) {
	f.Add([]byte("key"), []byte("info"), 42)
	f.Add([]byte{}, []byte{}, -1)
	f.Fuzz(func(t *testing.T, key, info []byte, n int) {
		if n >= 1 && n <= most {
			checkExpand(t, key, info, n)
		} else if got := mac.Expand(key, info, n); got != nil {
			t.Errorf("P3.1: Expand of %d: %d bytes, want nil", n, len(got))
		}
	})
}
