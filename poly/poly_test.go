package poly_test

import (
	"bytes"
	"encoding/binary"
	"encoding/hex"
	"math/big"
	"slices"
	"strings"
	"testing"

	"indenture/poly"
)

const (
	ietf = `Any submission to the IETF intended by the Contributor for publication as all or part of an IETF Internet-Draft ` +
		`or RFC and any statement made within the context of an IETF activity is considered an "IETF Contribution". Such ` +
		`statements include oral statements in IETF sessions, as well as written and electronic communications made at any ` +
		`time or place, which are addressed to`
	brillig = "'Twas brillig, and the slithy toves\nDid gyre and gimble in the wabe:\n" +
		"All mimsy were the borogoves,\nAnd the mome raths outgrabe."
	halfIETF = "36e5f6b5c5e06070f0efca96227a863e"
	nought   = "00000000000000000000000000000000"
	ones     = "ffffffffffffffffffffffffffffffff"
	// oneAndFour is an r at which products reach over all digits (RFC 8439, A.3, 10 and 11).
	oneAndFour = "01000000000000000400000000000000"
)

// sealed is what RFC 8439's 2.8.2 asks a tag of.
const sealed = "50515253c0c1c2c3c4c5c6c700000000" +
	"d31a8d34648e60db7b86afbc53ef7ec2a4aded51296e08fea9e2b5a736ee62d6" +
	"3dbea45e8ca9671282fafb69da92728b1a71de0a9e060b2905d6a5b67ecd3b36" +
	"92ddbd7f2d778b8c9803aee328091b58fab324e4fad675945585808b4831d7bc" +
	"3ff4def08e4b7a9de576d26586cec64b6116" + "0000000000000000000000000000" +
	"0c000000000000007200000000000000"

// power is 2^n.
func power(n uint) *big.Int { return new(big.Int).Lsh(big.NewInt(1), n) }

// prime is 2^130 - 5.
func prime() *big.Int { return new(big.Int).Sub(power(130), big.NewInt(5)) }

// number is b as a number, lowest byte first.
func number(b []byte) *big.Int {
	turned := bytes.Clone(b)
	slices.Reverse(turned)
	return new(big.Int).SetBytes(turned)
}

// sixteen is x modulo 2^128, lowest byte first.
func sixteen(x *big.Int) [16]byte {
	var out [16]byte
	new(big.Int).Mod(x, power(128)).FillBytes(out[:])
	slices.Reverse(out[:])
	return out
}

// clamp is RFC 8439's 2.5: the first half of the key with the bits that it names cleared.
func clamp(key [32]byte) *big.Int {
	mask, _ := new(big.Int).SetString("0ffffffc0ffffffc0ffffffc0fffffff", 16)
	return mask.And(mask, number(key[:16]))
}

// wantSum is RFC 8439's 2.5.1 up to where the second half is added.
func wantSum(key [32]byte, b []byte) *big.Int {
	r, acc := clamp(key), new(big.Int)
	for piece := range slices.Chunk(b, 16) {
		acc.Add(acc, number(piece))
		acc.Add(acc, power(uint(8*len(piece))))
		acc.Mod(acc.Mul(acc, r), prime())
	}
	return acc
}

// wantTag is RFC 8439's 2.5.1.
func wantTag(key [32]byte, b []byte) [16]byte {
	acc := wantSum(key, b)
	return sixteen(acc.Add(acc, number(key[16:])))
}

// checkTag holds Tag against wantTag.
func checkTag(t *testing.T, key [32]byte, b []byte) {
	t.Helper()
	if got, want := poly.Tag(key, b), wantTag(key, b); got != want {
		t.Errorf("P5.1: Tag, key %x, of %d bytes, %x: %x, want %x", key, len(b), b[:min(len(b), 64)], got, want)
	}
}

// random gives bytes of which no two pieces are the same.
type random uint64

func (r *random) bytes(n int) []byte {
	b := make([]byte, n)
	for i := range b {
		*r = *r*6364136223846793005 + 1442695040888963407
		b[i] = byte(*r >> 56)
	}
	return b
}

// text is n bytes, the same ones each time.
func text(n int) []byte {
	r := random(7)
	return r.bytes(n)
}

// same is n bytes of x.
func same(x byte, n int) []byte { return bytes.Repeat([]byte{x}, n) }

// raw is the bytes that a text of hex digits tells.
func raw(t *testing.T, s string) []byte {
	t.Helper()
	b, err := hex.DecodeString(s)
	if err != nil {
		t.Fatal(err)
	}
	return b
}

// join is a key of two halves.
func join(r, s []byte) [32]byte { return [32]byte(slices.Concat(r, s)) }

// keys are such of which a half is nought, or ones alone, and others.
func keys() [][32]byte {
	halves := [][]byte{same(0, 16), same(0xff, 16), same(1, 16), append([]byte{1}, same(0, 15)...), text(16), text(32)[16:]}
	var l [][32]byte
	for _, r := range halves {
		for _, s := range halves {
			l = append(l, join(r, s))
		}
	}
	return l
}

// lengths are all about the ends of the first pieces, and some further on.
func lengths() []int {
	l := []int{255, 256, 257, 1023, 1024, 1025}
	for n := range 100 {
		l = append(l, n)
	}
	return l
}

// TestTagOfTheRFC holds Tag against 2.5.2, 2.8.2 and A.3.
func TestTagOfTheRFC(t *testing.T) {
	hexed := func(s string) string { return hex.EncodeToString([]byte(s)) }
	for i, c := range []struct{ key, b, want string }{
		{"85d6be7857556d337f4452fe42d506a8" + "0103808afb0db2fd4abff6af4149f51b",
			hexed("Cryptographic Forum Research Group"), "a8061dc1305136c6c22b8baf0c0127a9"},
		{"7bac2b252db447af09b67a55a4e95584" + "0ae1d6731075d9eb2a9375783ed553ff", sealed, "1ae10b594f09e26a7e902ecbd0600691"},
		{nought + nought, strings.Repeat(nought, 4), nought},
		{nought + halfIETF, hexed(ietf), halfIETF},
		{halfIETF + nought, hexed(ietf), "f3477e7cd95417af89a6b8794c310cf0"},
		{"1c9240a5eb55d38af333888604f6b5f0" + "473917c1402b80099dca5cbc207075c0",
			hexed(brillig), "4541669a7eaaee61e708dc7cbcc5eb62"},
		{"02" + nought[2:] + nought, ones, "03" + nought[2:]},
		{"02" + nought[2:] + ones, "02" + nought[2:], "03" + nought[2:]},
		{"01" + nought[2:] + nought, ones + "f0" + ones[2:] + "11" + nought[2:], "05" + nought[2:]},
		{"01" + nought[2:] + nought, ones + "fb" + strings.Repeat("fe", 15) + strings.Repeat("01", 16), nought},
		{"02" + nought[2:] + nought, "fd" + ones[2:], "fa" + ones[2:]},
		{oneAndFour + nought, "e33594d7505e43b90000000000000000" + "3394d7505e4379cd0100000000000000" + nought +
			"01" + nought[2:], "14000000000000005500000000000000"},
		{oneAndFour + nought, "e33594d7505e43b90000000000000000" + "3394d7505e4379cd0100000000000000" + nought,
			"13" + nought[2:]},
	} {
		key, b := [32]byte(raw(t, c.key)), raw(t, c.b)
		if got := poly.Tag(key, b); hex.EncodeToString(got[:]) != c.want {
			t.Errorf("P5.1: the example %d: %x, want %s", i, got, c.want)
		}
		checkTag(t, key, b)
	}
}

// TestTagOfNothing holds that without a piece the tag is the second half.
func TestTagOfNothing(t *testing.T) {
	for _, key := range keys() {
		for _, none := range [][]byte{nil, {}, text(5)[:0], text(200)[:0]} {
			if got := poly.Tag(key, none); got != [16]byte(key[16:]) {
				t.Errorf("P5.1: Tag, key %x, of nothing: %x", key, got)
			}
		}
	}
}

func TestTagOfEveryLength(t *testing.T) {
	for _, key := range keys() {
		for _, n := range lengths() {
			for _, b := range [][]byte{same(0, n), same(0xff, n), same(1, n), text(n)} {
				checkTag(t, key, b)
			}
		}
	}
}

// TestTagOfOneByte holds that a short piece has its 1 behind its own bytes, not behind sixteen.
func TestTagOfOneByte(t *testing.T) {
	for x := range 256 {
		for _, key := range keys() {
			checkTag(t, key, []byte{byte(x)})
		}
		one := join(append([]byte{1}, same(0, 15)...), same(0, 16))
		if got := poly.Tag(one, []byte{byte(x)}); got != [16]byte{byte(x), 1} {
			t.Errorf("P5.1: Tag of the byte %d by the key 1: %x", x, got)
		}
	}
}

// TestTagOfLongTexts looks whether anything gathers up over many pieces.
func TestTagOfLongTexts(t *testing.T) {
	for _, n := range []int{1 << 12, 1<<16 - 1, 1 << 18} {
		for _, key := range [][32]byte{[32]byte(same(0xff, 32)), [32]byte(text(32))} {
			for _, b := range [][]byte{same(0, n), same(0xff, n), text(n)} {
				checkTag(t, key, b)
			}
		}
	}
}

// TestTagOfManyKeys mixes bytes at random with such as fill whole digits or leave them empty.
func TestTagOfManyKeys(t *testing.T) {
	r := random(1)
	for range 20000 {
		whole := r.bytes(32 + 70)
		for i, x := range r.bytes(len(whole)) {
			switch x % 4 {
			case 0:
				whole[i] = 0xff
			case 1:
				whole[i] = 0
			}
		}
		checkTag(t, [32]byte(whole), whole[32:32+int(r.bytes(1)[0])%71])
	}
}

// TestEveryBitOfTheKey holds that just the clamped bits of the first half do not count.
func TestEveryBitOfTheKey(t *testing.T) {
	b := text(40)
	for _, key := range [][32]byte{{}, [32]byte(same(0xff, 32)), [32]byte(text(32))} {
		before := poly.Tag(key, b)
		deaf := 0
		for bit := range 256 {
			other := key
			other[bit/8] ^= 1 << (bit % 8)
			checkTag(t, other, b)
			if poly.Tag(other, b) == before {
				deaf++
				if clamp(other).Cmp(clamp(key)) != 0 {
					t.Errorf("P5.1: the bit %d of the key %x does not count", bit, key)
				}
			}
		}
		if deaf != 22 {
			t.Errorf("P5.1: %d bits of the key %x do not count, want 22", deaf, key)
		}
	}
}

func TestEveryBitOfTheText(t *testing.T) {
	key := [32]byte(text(32))
	for _, n := range []int{1, 15, 16, 17, 31, 32, 33, 48, 50} {
		b := text(n)
		seen := map[[16]byte]int{poly.Tag(key, b): -1}
		for bit := range 8 * n {
			b[bit/8] ^= 1 << (bit % 8)
			checkTag(t, key, b)
			if other, ok := seen[poly.Tag(key, b)]; ok {
				t.Errorf("P5.1: of %d bytes the bit %d has the tag of the bit %d", n, bit, other)
			}
			seen[poly.Tag(key, b)] = bit
			b[bit/8] ^= 1 << (bit % 8)
		}
	}
}

// TestNoughtsBehind holds that noughts behind b change the tag, each further one anew.
func TestNoughtsBehind(t *testing.T) {
	for _, key := range [][32]byte{[32]byte(text(32)), [32]byte(same(0xff, 32)), join(text(16), same(0, 16))} {
		for _, front := range [][]byte{nil, {0}, same(0, 16), text(1), text(15), text(16), text(17), text(32), text(48)} {
			seen := map[[16]byte]int{}
			for n := range 50 {
				b := slices.Concat(front, same(0, n))
				checkTag(t, key, b)
				if other, ok := seen[poly.Tag(key, b)]; ok {
					t.Errorf("P5.1: %d and %d noughts behind %d bytes have one tag", other, n, len(front))
				}
				seen[poly.Tag(key, b)] = n
			}
		}
	}
}

// edges are numbers about 0, the prime and the powers of 2 above the tag's bits, up to 2^130 + 40.
func edges() []*big.Int {
	var l []*big.Int
	for _, about := range []*big.Int{power(128), power(129), prime(), power(130)} {
		for d := int64(-40); d <= 40; d++ {
			l = append(l, new(big.Int).Add(about, big.NewInt(d)))
		}
	}
	return l
}

// halves are second halves at which sum + s is about 2^128, and some others.
func halves(sum *big.Int) [][]byte {
	l := [][]byte{same(0, 16), same(0xff, 16), text(16), append([]byte{1}, same(0, 15)...)}
	for d := int64(-2); d <= 2; d++ {
		s := new(big.Int).Sub(power(128), sum)
		half := sixteen(s.Add(s, big.NewInt(d)))
		l = append(l, half[:])
	}
	return l
}

// TestSumsAboutThePrime has r be 1, so that the sum is that of the pieces: it is brought to each of the edges exactly.
func TestSumsAboutThePrime(t *testing.T) {
	one := append([]byte{1}, same(0, 15)...)
	for _, want := range edges() {
		for pieces := int64(1); pieces <= 4; pieces++ {
			rest := new(big.Int).Sub(want, new(big.Int).Mul(big.NewInt(pieces), power(128)))
			var b []byte
			for range pieces {
				x := new(big.Int).Sub(power(128), big.NewInt(1))
				if rest.Cmp(x) < 0 {
					x.Set(rest)
				}
				if x.Sign() < 0 {
					break
				}
				rest.Sub(rest, x)
				piece := sixteen(x)
				b = append(b, piece[:]...)
			}
			if rest.Sign() != 0 {
				continue
			}
			sum := new(big.Int).Mod(want, prime())
			for _, s := range halves(sum) {
				key := join(one, s)
				checkTag(t, key, b)
				if got := poly.Tag(key, b); got != sixteen(new(big.Int).Add(sum, number(s))) {
					t.Errorf("P5.1: Tag of pieces whose sum is %x, s %x: %x", want, s, got)
				}
			}
		}
	}
}

// lastPiece is the piece behind b that brings the sum to want; ok: there is one of sixteen bytes.
func lastPiece(key [32]byte, b []byte, want *big.Int) (piece [16]byte, ok bool) {
	x := new(big.Int).ModInverse(clamp(key), prime())
	if x == nil {
		return piece, false
	}
	x.Mod(x.Sub(x.Mul(x, want), wantSum(key, b)), prime())
	x.Sub(x, power(128))
	if x.Sign() < 0 || x.Cmp(power(128)) >= 0 {
		return piece, false
	}
	return sixteen(x), true
}

// TestProductsAboutThePrime looks for texts whose sum is about 0 or the prime behind a product by any r.
func TestProductsAboutThePrime(t *testing.T) {
	r := random(3)
	for d := int64(-12); d <= 12; d++ {
		want := new(big.Int).Mod(big.NewInt(d), prime())
		found := 0
		for found < 40 {
			first := r.bytes(16)
			if found%4 == 0 {
				first = same(0xff, 16)
			}
			b := r.bytes(16 * (found % 3))
			b = append(b, r.bytes(16)...)
			piece, ok := lastPiece(join(first, same(0, 16)), b, want)
			if !ok {
				continue
			}
			found++
			b = append(b, piece[:]...)
			for _, s := range halves(want) {
				key := join(first, s)
				if got := poly.Tag(key, b); got != sixteen(new(big.Int).Add(want, number(s))) {
					t.Errorf("P5.1: Tag, key %x, of %x, whose sum is %x: %x", key, b, want, got)
				}
			}
		}
	}
}

// TestSmallRs has r be the numbers of few bits, at which products are those of the pieces, shifted.
func TestSmallRs(t *testing.T) {
	for bit := range 128 {
		first := make([]byte, 16)
		first[bit/8] = 1 << (bit % 8)
		for _, b := range [][]byte{same(0xff, 16), same(0xff, 64), {0xfb}, append([]byte{0xfb}, same(0xff, 15)...), text(33)} {
			for _, s := range [][]byte{same(0, 16), same(0xff, 16)} {
				checkTag(t, join(first, s), b)
			}
		}
	}
}

// spare answers b with spare room behind it that is filled with fill.
func spare(b []byte, fill byte) []byte {
	return append(bytes.Clone(b), same(fill, 100)...)[:len(b)]
}

// full is b with its spare room.
func full(b []byte) []byte { return b[:cap(b)] }

// TestArgumentsStay hands in a list with spare room and looks at all of it behind the call.
func TestArgumentsStay(t *testing.T) {
	key := [32]byte(text(32))
	for _, n := range lengths() {
		for _, fill := range []byte{0, 0xa5} {
			b := spare(text(n), fill)
			before := bytes.Clone(full(b))
			got := poly.Tag(key, b)
			if got != wantTag(key, text(n)) {
				t.Errorf("P0.3: Tag of %d bytes hangs on spare room: %x", n, got)
			}
			if !bytes.Equal(full(b), before) {
				t.Errorf("P0.3: Tag changed a list of %d bytes", n)
			}
			if key != [32]byte(text(32)) {
				t.Error("P0.3: Tag changed the key")
			}
		}
	}
}

// TestNothingIsKept asks the same between other calls, and behind a change of what was handed in.
func TestNothingIsKept(t *testing.T) {
	key, b := [32]byte(text(32)), text(100)
	first := poly.Tag(key, b)
	for i := range b {
		b[i] ^= 0xff
	}
	for _, other := range keys() {
		poly.Tag(other, b)
		if poly.Tag(key, text(100)) != first {
			t.Error("P0.5: what is answered hangs on the calls before")
		}
	}
	checkTag(t, key, b)
}

func FuzzTag(f *testing.F) {
	f.Add(text(32), []byte("a message"))
	f.Add(same(0xff, 32), same(0xff, 50))
	f.Add(binary.LittleEndian.AppendUint64(nil, 2), append([]byte{0xfb}, same(0xff, 15)...))
	f.Fuzz(func(t *testing.T, k []byte, b []byte) {
		var key [32]byte
		copy(key[:], k)
		checkTag(t, key, b)
	})
}
