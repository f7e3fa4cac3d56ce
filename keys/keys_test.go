package keys_test

import (
	"bytes"
	"crypto/hkdf"
	"crypto/sha256"
	"encoding/binary"
	"encoding/hex"
	"math"
	"sync"
	"testing"

	"indenture/api"
	"indenture/keys"
	"indenture/mac"
	"indenture/num"
)

// text is n bytes of which no two blocks are the same.
func text(n int) []byte {
	b := make([]byte, n)
	x := uint32(1)
	for i := range b {
		x = x*1664525 + 1013904223
		b[i] = byte(x >> 24)
	}
	return b
}

// lengths go over the ends of a key's and a sum's blocks, and over the places where a sum takes one block more for its end.
func lengths() []int {
	return []int{0, 1, 2, 8, 9, 31, 32, 33, 55, 56, 57, 63, 64, 65, 66, 119, 120, 121, 127, 128, 129, 191, 192, 193, 1000, 4097}
}

// epochs holds the ends of int64, and on either side of 0 the last number of each length that num.Put knows, and those beside it.
func epochs() []int64 {
	all := []int64{0, 1, -1, 2, -2, 3, 150, 151, 1 << 40, 1<<40 + 1, math.MaxInt64, math.MaxInt64 - 1, math.MinInt64, math.MinInt64 + 1}
	for bits := 6; bits < 63; bits += 7 {
		n := int64(1) << bits
		all = append(all, n-2, n-1, n, n+1, -n+1, -n, -n-1, -n-2)
	}
	return all
}

// want is what the library's HKDF gives. Its varints are the document's numbers, written by other hands.
func want(t testing.TB, secret []byte, epoch int64) keys.Keys {
	t.Helper()
	return keys.Keys{
		Seal:  wantKey(t, secret, string(binary.AppendVarint([]byte("seal"), epoch))),
		Mark:  wantKey(t, secret, "mark"),
		Label: wantKey(t, secret, "label"),
	}
}

func wantKey(t testing.TB, secret []byte, info string) api.Hash {
	t.Helper()
	b, err := hkdf.Key(sha256.New, secret, []byte("indenture"), info, 32)
	if err != nil {
		t.Fatal(err)
	}
	return api.Hash(b)
}

// check holds each of the three keys of Of against want.
func check(t testing.TB, secret []byte, epoch int64) {
	t.Helper()
	checkKeys(t, secret, epoch, keys.Of(secret, epoch), want(t, secret, epoch))
}

func checkKeys(t testing.TB, secret []byte, epoch int64, got, want keys.Keys) {
	t.Helper()
	for _, k := range []struct {
		name      string
		got, want api.Hash
	}{{"Seal", got.Seal, want.Seal}, {"Mark", got.Mark, want.Mark}, {"Label", got.Label, want.Label}} {
		if k.got != k.want {
			t.Errorf("P9.1: a secret of %d bytes, epoch %d: %s is %x, want %x", len(secret), epoch, k.name, k.got, k.want)
		}
	}
}

// TestWrittenOut holds Of against keys that another program made.
func TestWrittenOut(t *testing.T) {
	all := make([]byte, 256)
	for i := range all {
		all[i] = byte(i)
	}
	const (
		mark  = "963a072c905e288ee499fd19cda68a7c9696020ec8bfd8b6aac78e7b18bdc619"
		label = "7c32ddea6a2b61c4f39f534824c83133a57d9567bceb954190175165e99d227c"
	)
	for _, c := range []struct {
		secret            []byte
		epoch             int64
		seal, mark, label string
	}{
		{nil, 0,
			"2fcf154c6d0b84bed67a07948eaf3a8d0ad09d8269e74dfc43249495fa731e6e",
			"8ced240f85a9915bda97ece9f9a9a5178b216600a4a22fbae96b622f2de2440a",
			"dcf3908f3f8dee6a3d9cb45f58644bcc8c196e6b42224b28b41e007884b74c20"},
		{[]byte("secret"), 0, "0b9cd8da2730f07b9cea239b2f87b180ef6bbc9af89616eda6536f48e5c3be95", mark, label},
		{[]byte("secret"), -1, "59cb1a47cc7744a750339306a617da0b1b3e2a4d93f6bed4ec9c5b02228356d9", mark, label},
		{[]byte("secret"), 64, "933b50c9006d20acc4e6eb741d2fbe949696e788e1dc13031e4bbecb8af1fb34", mark, label},
		{[]byte("secret"), math.MaxInt64, "141c40e76d7ac4337b14ff845449e97589e8ea87a6e907eedc118555745d0597", mark, label},
		{[]byte("secret"), math.MinInt64, "87973c516feb4a555f6c84fe66f3bee6a121aab2c323716f4fc93e17e4fd1945", mark, label},
		{all, 150,
			"c058a0ad1494cef6fa4bfa482939542d146b61f32f869e7808724f605ba5f723",
			"114d7146ec3351b070629435ba4a119582ab0a6bcf8a3f386281f3c54508c372",
			"8a1a186e167921c05e75c2a82e465f4302d0b8a08ab424250e14193067b07c3e"},
	} {
		got := keys.Of(c.secret, c.epoch)
		for _, k := range []struct {
			name string
			got  api.Hash
			want string
		}{{"Seal", got.Seal, c.seal}, {"Mark", got.Mark, c.mark}, {"Label", got.Label, c.label}} {
			if hex.EncodeToString(k.got[:]) != k.want {
				t.Errorf("P9.1: a secret of %d bytes, epoch %d: %s is %x, want %s", len(c.secret), c.epoch, k.name, k.got, k.want)
			}
		}
	}
}

// TestByTheLayersBelow goes the road that the chapter names, with the layers that it names.
func TestByTheLayersBelow(t *testing.T) {
	for _, n := range lengths() {
		root := mac.Extract([]byte("indenture"), text(n))
		for _, epoch := range epochs() {
			checkKeys(t, text(n), epoch, keys.Of(text(n), epoch), keys.Keys{
				Seal:  api.Hash(mac.Expand(root[:], append([]byte("seal"), num.Put(nil, epoch)...), 32)),
				Mark:  api.Hash(mac.Expand(root[:], []byte("mark"), 32)),
				Label: api.Hash(mac.Expand(root[:], []byte("label"), 32)),
			})
		}
	}
}

func TestSecretOfEveryLength(t *testing.T) {
	for n := range 300 {
		for _, secret := range [][]byte{text(n), make([]byte, n), bytes.Repeat([]byte{0xff}, n)} {
			check(t, secret, 0)
			check(t, secret, 7)
		}
	}
	check(t, text(1<<20), 1)
}

func TestSecretOfEveryByte(t *testing.T) {
	for b := range 256 {
		check(t, []byte{byte(b)}, int64(b))
	}
}

func TestEveryEpoch(t *testing.T) {
	for _, n := range lengths() {
		for _, epoch := range epochs() {
			check(t, text(n), epoch)
		}
	}
	for epoch := range int64(20000) {
		check(t, []byte("secret"), epoch-10000)
	}
}

func TestNoSecretAtAll(t *testing.T) {
	for _, epoch := range epochs() {
		none := keys.Of(nil, epoch)
		checkKeys(t, nil, epoch, none, want(t, nil, epoch))
		if keys.Of([]byte{}, epoch) != none || keys.Of(text(9)[:0], epoch) != none {
			t.Errorf("P0.4: epoch %d: a nil secret is not as an empty one", epoch)
		}
	}
}

// TestWhatHangsOnTheEpoch holds that Seal is another in each epoch, and that the other two are the same in all.
func TestWhatHangsOnTheEpoch(t *testing.T) {
	for _, n := range lengths() {
		first := keys.Of(text(n), 0)
		seen := map[api.Hash]int64{first.Mark: 0, first.Label: 0}
		if len(seen) != 2 {
			t.Errorf("P9.1: a secret of %d bytes: Mark and Label are the same", n)
		}
		of := map[int64]api.Hash{}
		for _, epoch := range epochs() {
			k := keys.Of(text(n), epoch)
			if k.Mark != first.Mark || k.Label != first.Label {
				t.Errorf("P9.1: a secret of %d bytes, epoch %d: Mark or Label is another than in epoch 0", n, epoch)
			}
			of[epoch] = k.Seal
		}
		for epoch, seal := range of {
			if other, ok := seen[seal]; ok {
				t.Errorf("P9.1: a secret of %d bytes: Seal of epoch %d was there before, of %d", n, epoch, other)
			}
			seen[seal] = epoch
		}
	}
}

// TestTurnedBit holds that all of the secret counts.
func TestTurnedBit(t *testing.T) {
	for _, n := range []int{1, 2, 31, 32, 33, 63, 64, 65, 128, 129} {
		secret := text(n)
		whole := keys.Of(secret, 3)
		for i := range 8 * n {
			secret[i/8] ^= 1 << (i % 8)
			checkNothingAlike(t, whole, keys.Of(secret, 3), "a secret of %d bytes, bit %d turned", n, i)
			check(t, secret, 3)
			secret[i/8] ^= 1 << (i % 8)
		}
		checkKeys(t, secret, 3, keys.Of(secret, 3), whole)
	}
}

// TestNearSecrets holds that what is about a secret's ends counts too: noughts, and what a longer one begins with.
func TestNearSecrets(t *testing.T) {
	for _, n := range lengths() {
		secret := text(n)
		whole := keys.Of(secret, 3)
		checkNothingAlike(t, whole, keys.Of(append(text(n), 0), 3), "a secret of %d bytes, a nought behind it (%d)", n, 0)
		checkNothingAlike(t, whole, keys.Of(append([]byte{0}, secret...), 3), "a secret of %d bytes, a nought ahead of it (%d)", n, 0)
		checkNothingAlike(t, whole, keys.Of(text(n+1), 3), "a secret of %d bytes, a byte more (%d)", n, n+1)
		if n > 64 {
			sum := sha256.Sum256(secret)
			checkNothingAlike(t, whole, keys.Of(sum[:], 3), "a secret of %d bytes, its sum (%d)", n, 32)
		}
	}
}

func checkNothingAlike(t *testing.T, a, b keys.Keys, what string, n, i int) {
	t.Helper()
	if a.Seal == b.Seal || a.Mark == b.Mark || a.Label == b.Label {
		t.Errorf("P9.1: "+what+": not all keys are others", n, i)
	}
}

// spareRoom stands behind a secret and tells who writes there.
func spareRoom() []byte { return bytes.Repeat([]byte{0xa5}, 64) }

func TestSecretIsNotChanged(t *testing.T) {
	for _, n := range lengths() {
		for _, epoch := range []int64{0, 1, math.MaxInt64, math.MinInt64} {
			long := append(text(n), spareRoom()...)
			keys.Of(long[:n], epoch)
			if !bytes.Equal(long, append(text(n), spareRoom()...)) {
				t.Errorf("P0.3: Of changed a secret of %d bytes or its spare room", n)
			}
		}
	}
}

// TestSpareRoomTellsNothing holds that what stands behind a secret has no part in its keys.
func TestSpareRoomTellsNothing(t *testing.T) {
	for _, n := range lengths() {
		long := append(text(n), spareRoom()...)
		checkKeys(t, text(n), 5, keys.Of(long[:n], 5), want(t, text(n), 5))
	}
}

// TestSecretIsNotKept writes into the secret behind the call.
func TestSecretIsNotKept(t *testing.T) {
	for _, n := range lengths() {
		secret := append(text(n), spareRoom()...)
		before := keys.Of(secret[:n], 5)
		for i := range secret {
			secret[i] ^= 0xff
		}
		checkKeys(t, text(n), 5, before, want(t, text(n), 5))
		check(t, secret[:n], 5)
		check(t, text(n), 5)
	}
}

// TestAnswersAreApart writes into the keys that one call answered.
func TestAnswersAreApart(t *testing.T) {
	a, b := keys.Of([]byte("secret"), 5), keys.Of([]byte("secret"), 5)
	for i := range a.Seal {
		a.Seal[i], a.Mark[i], a.Label[i] = 0, 0, 0
	}
	checkKeys(t, []byte("secret"), 5, b, want(t, []byte("secret"), 5))
	check(t, []byte("secret"), 5)
}

// TestOrderOfCallsTellsNothing asks for many keys in turn, and for the same ones again in another order.
func TestOrderOfCallsTellsNothing(t *testing.T) {
	type ask struct {
		n     int
		epoch int64
	}
	var asks []ask
	var first []keys.Keys
	for _, n := range lengths() {
		for _, epoch := range []int64{0, 1, 63, 64, -1, math.MaxInt64} {
			asks = append(asks, ask{n, epoch})
			first = append(first, keys.Of(text(n), epoch))
		}
	}
	for i := len(asks) - 1; i >= 0; i-- {
		if keys.Of(text(asks[i].n), asks[i].epoch) != first[i] {
			t.Errorf("P0.5: a secret of %d bytes, epoch %d: other keys the second time", asks[i].n, asks[i].epoch)
		}
	}
}

// TestSideBySide has one secret asked for from several sides at the same time: it is only read.
func TestSideBySide(t *testing.T) {
	secret := text(100)
	var got [8]keys.Keys
	var all sync.WaitGroup
	for i := range got {
		all.Go(func() {
			for range 50 {
				got[i] = keys.Of(secret, int64(i))
			}
		})
	}
	all.Wait()
	for i := range got {
		checkKeys(t, secret, int64(i), got[i], want(t, secret, int64(i)))
	}
}

func FuzzOf(f *testing.F) {
	f.Add([]byte(nil), int64(0))
	f.Add([]byte("secret"), int64(-1))
	f.Add(text(64), int64(math.MaxInt64))
	f.Add(text(65), int64(math.MinInt64))
	f.Fuzz(func(t *testing.T, secret []byte, epoch int64) {
		before := bytes.Clone(secret)
		check(t, secret, epoch)
		if !bytes.Equal(secret, before) {
			t.Errorf("P0.3: Of changed a secret of %d bytes", len(secret))
		}
	})
}
