package chacha_test

import (
	"bytes"
	"encoding/binary"
	"encoding/hex"
	"math"
	"strings"
	"testing"

	"indenture/chacha"
)

// counters are the edges, and such as go round inside a text of a few blocks.
var counters = []uint32{0, 1, 2, 7, 1 << 16, 1<<31 - 1, 1 << 31, math.MaxUint32 - 2, math.MaxUint32 - 1, math.MaxUint32}

// text is n bytes of which no two blocks are the same.
func text(n int) []byte {
	b := make([]byte, n)
	x := uint32(1)
	for i := range b {
		x = x*1664525 + 1013904223
		b[i] = byte(x >> 24)
	}
	return b
}

// raw is the bytes that a text of hex digits tells.
func raw(t *testing.T, s string) []byte {
	t.Helper()
	b, err := hex.DecodeString(s)
	if err != nil {
		t.Fatal(err)
	}
	return b
}

// same is n bytes of x.
func same(x byte, n int) []byte { return bytes.Repeat([]byte{x}, n) }

// keys are such of noughts alone, of ones alone, and others.
func keys() [][32]byte {
	one, rising := [32]byte{31: 1}, [32]byte{}
	for i := range rising {
		rising[i] = byte(i)
	}
	return [][32]byte{{}, [32]byte(same(0xff, 32)), [32]byte(same(1, 32)), one, rising, [32]byte(text(32))}
}

// nonces are such of noughts alone, of ones alone, and others.
func nonces() [][12]byte {
	return [][12]byte{{}, [12]byte(same(0xff, 12)), [12]byte(same(1, 12)), {0: 1}, {11: 2}, [12]byte(text(12))}
}

// wantQuarter is RFC 8439's 2.1, in numbers wide enough that nothing goes round by itself.
func wantQuarter(w *[16]uint64, a, b, c, d int) {
	step := func(x, y, z int, n uint64) {
		w[x] = (w[x] + w[y]) % (1 << 32)
		turned := (w[z] ^ w[x]) << n
		w[z] = turned%(1<<32) | turned>>32
	}
	step(a, b, d, 16)
	step(c, d, b, 12)
	step(a, b, d, 8)
	step(c, d, b, 7)
}

// wantBlock is RFC 8439's 2.3, as its lines stand there.
func wantBlock(key [32]byte, counter uint32, nonce [12]byte) [64]byte {
	from := bytes.Join([][]byte{[]byte("expand 32-byte k"), key[:], binary.LittleEndian.AppendUint32(nil, counter), nonce[:]}, nil)
	var first, w [16]uint64
	for i := range first {
		first[i] = uint64(binary.LittleEndian.Uint32(from[4*i:]))
	}
	w = first
	for range 10 {
		wantQuarter(&w, 0, 4, 8, 12)
		wantQuarter(&w, 1, 5, 9, 13)
		wantQuarter(&w, 2, 6, 10, 14)
		wantQuarter(&w, 3, 7, 11, 15)
		wantQuarter(&w, 0, 5, 10, 15)
		wantQuarter(&w, 1, 6, 11, 12)
		wantQuarter(&w, 2, 7, 8, 13)
		wantQuarter(&w, 3, 4, 9, 14)
	}
	var out []byte
	for i := range w {
		out = binary.LittleEndian.AppendUint32(out, uint32((w[i]+first[i])%(1<<32)))
	}
	return [64]byte(out)
}

// wantXor is RFC 8439's 2.4.
func wantXor(key [32]byte, counter uint32, nonce [12]byte, b []byte) []byte {
	var out []byte
	for at := 0; at < len(b); at += 64 {
		block := wantBlock(key, uint32((uint64(counter)+uint64(at/64))%(1<<32)), nonce)
		for i, x := range b[at:min(at+64, len(b))] {
			out = append(out, x^block[i])
		}
	}
	return out
}

// checkXor holds Xor against wantXor, and that Xor of what it gave is b again.
func checkXor(t *testing.T, key [32]byte, counter uint32, nonce [12]byte, b []byte) {
	t.Helper()
	got := chacha.Xor(key, counter, nonce, b)
	if want := wantXor(key, counter, nonce, b); !bytes.Equal(got, want) {
		t.Errorf("P4.1: Xor of %d bytes from %d, key %x, nonce %x: %x, want %x", len(b), counter, key, nonce, got, want)
	}
	if back := chacha.Xor(key, counter, nonce, got); !bytes.Equal(back, b) {
		t.Errorf("P4.1: Xor of Xor of %d bytes from %d: %x, want %x", len(b), counter, back, b)
	}
}

func TestQuarterOfTheRFC(t *testing.T) {
	for _, c := range []struct{ from, want [4]uint32 }{
		{[4]uint32{0x11111111, 0x01020304, 0x9b8d6f43, 0x01234567}, [4]uint32{0xea2a92f4, 0xcb1cf8ce, 0x4581472e, 0x5881c4bb}},
		{[4]uint32{0x516461b1, 0x2a5f714c, 0x53372767, 0x3d631689}, [4]uint32{0xbdb886dc, 0xcfacafd2, 0xe46bea80, 0xccc07c79}},
		{[4]uint32{}, [4]uint32{}},
	} {
		x, y, z, w := chacha.Quarter(c.from[0], c.from[1], c.from[2], c.from[3])
		if got := [4]uint32{x, y, z, w}; got != c.want {
			t.Errorf("P4.1: Quarter of %x: %x, want %x", c.from, got, c.want)
		}
	}
}

// TestQuarterOfEdges goes through all fours of words at which sums go round and bits fall out of a turn.
func TestQuarterOfEdges(t *testing.T) {
	edges := []uint32{0, 1, 0xff, 1 << 15, 1 << 20, 1<<31 - 1, 1 << 31, 1<<31 + 1, math.MaxUint32 - 1, math.MaxUint32, 0x9b8d6f43}
	for _, a := range edges {
		for _, b := range edges {
			for _, c := range edges {
				for _, d := range edges {
					w := [16]uint64{uint64(a), uint64(b), uint64(c), uint64(d)}
					wantQuarter(&w, 0, 1, 2, 3)
					x, y, z, u := chacha.Quarter(a, b, c, d)
					if [4]uint64{uint64(x), uint64(y), uint64(z), uint64(u)} != [4]uint64(w[:4]) {
						t.Fatalf("P4.1: Quarter of %x, %x, %x, %x: %x, %x, %x, %x, want %x", a, b, c, d, x, y, z, u, w[:4])
					}
				}
			}
		}
	}
}

// TestBlockOfTheRFC holds Block against 2.3.2 and A.1.
func TestBlockOfTheRFC(t *testing.T) {
	rising := keys()[4]
	for i, c := range []struct {
		key     [32]byte
		counter uint32
		nonce   [12]byte
		want    string
	}{
		{rising, 1, [12]byte{3: 9, 7: 0x4a}, "10f1e7e4d13b5915500fdd1fa32071c4c7d1f4c733c068030422aa9ac3d46c4e" +
			"d2826446079faa0914c2d705d98b02a2b5129cd1de164eb9cbd083e8a2503c4e"},
		{[32]byte{}, 0, [12]byte{}, "76b8e0ada0f13d90405d6ae55386bd28bdd219b8a08ded1aa836efcc8b770dc7" +
			"da41597c5157488d7724e03fb8d84a376a43b8f41518a11cc387b669b2ee6586"},
		{[32]byte{}, 1, [12]byte{}, "9f07e7be5551387a98ba977c732d080dcb0f29a048e3656912c6533e32ee7aed" +
			"29b721769ce64e43d57133b074d839d531ed1f28510afb45ace10a1f4b794d6f"},
		{[32]byte{31: 1}, 1, [12]byte{}, "3aeb5224ecf849929b9d828db1ced4dd832025e8018b8160b82284f3c949aa5a" +
			"8eca00bbb4a73bdad192b5c42f73f2fd4e273644c8b36125a64addeb006c13a0"},
		{[32]byte{1: 0xff}, 2, [12]byte{}, "72d54dfbf12ec44b362692df94137f328fea8da73990265ec1bbbea1ae9af0ca" +
			"13b25aa26cb4a648cb9b9d1be65b2c0924a66c54d545ec1b7374f4872e99f096"},
		{[32]byte{}, 0, [12]byte{11: 2}, "c2c64d378cd536374ae204b9ef933fcd1a8b2288b3dfa49672ab765b54ee27c7" +
			"8a970e0e955c14f3a88e741b97c286f75f8fc299e8148362fa198a39531bed6d"},
	} {
		got := chacha.Block(c.key, c.counter, c.nonce)
		if hex.EncodeToString(got[:]) != c.want {
			t.Errorf("P4.1: Block %d: %x, want %s", i, got, c.want)
		}
	}
}

func TestBlockOfEdges(t *testing.T) {
	for _, key := range keys() {
		for _, nonce := range nonces() {
			for _, counter := range counters {
				if got, want := chacha.Block(key, counter, nonce), wantBlock(key, counter, nonce); got != want {
					t.Errorf("P4.1: Block, key %x, counter %d, nonce %x: %x, want %x", key, counter, nonce, got, want)
				}
			}
		}
	}
}

// TestEveryBitCounts holds that each bit of key, counter and nonce has its own place among the words.
func TestEveryBitCounts(t *testing.T) {
	seen := map[[64]byte]int{chacha.Block([32]byte{}, 0, [12]byte{}): -1}
	for bit := range 8 * 48 {
		var from [48]byte
		from[bit/8] = 1 << (bit % 8)
		key, counter, nonce := [32]byte(from[:32]), binary.LittleEndian.Uint32(from[32:]), [12]byte(from[36:])
		got := chacha.Block(key, counter, nonce)
		if got != wantBlock(key, counter, nonce) {
			t.Errorf("P4.1: Block of the bit %d alone: %x", bit, got)
		}
		if other, ok := seen[got]; ok {
			t.Errorf("P4.1: Block of the bit %d alone is that of the bit %d", bit, other)
		}
		seen[got] = bit
	}
}

// TestXorOfTheRFC holds Xor against 2.4.2 and A.2.
func TestXorOfTheRFC(t *testing.T) {
	for i, c := range []struct {
		key     string
		counter uint32
		nonce   string
		b, want string
	}{
		{hex.EncodeToString(upTo(32)), 1, "000000000000004a00000000",
			"Ladies and Gentlemen of the class of '99: If I could offer you only one tip for the future, sunscreen would be it.",
			"6e2e359a2568f98041ba0728dd0d6981e97e7aec1d4360c20a27afccfd9fae0b" +
				"f91b65c5524733ab8f593dabcd62b3571639d624e65152ab8f530c359f0861d8" +
				"07ca0dbf500d6a6156a38e088a22b65e52bc514d16ccf806818ce91ab7793736" +
				"5af90bbf74a35be6b40b8eedf2785e42874d"},
		{strings.Repeat("00", 32), 0, strings.Repeat("00", 12), strings.Repeat("\x00", 64),
			"76b8e0ada0f13d90405d6ae55386bd28bdd219b8a08ded1aa836efcc8b770dc7" +
				"da41597c5157488d7724e03fb8d84a376a43b8f41518a11cc387b669b2ee6586"},
		{"1c9240a5eb55d38af333888604f6b5f0473917c1402b80099dca5cbc207075c0", 42, "000000000000000000000002",
			"'Twas brillig, and the slithy toves\nDid gyre and gimble in the wabe:\n" +
				"All mimsy were the borogoves,\nAnd the mome raths outgrabe.",
			"62e6347f95ed87a45ffae7426f27a1df5fb69110044c0d73118effa95b01e5cf" +
				"166d3df2d721caf9b21e5fb14c616871fd84c54f9d65b283196c7fe4f60553eb" +
				"f39c6402c42234e32a356b3e764312a61a5532055716ead6962568f87d3f3f77" +
				"04c6a8d1bcd1bf4d50d6154b6da731b187b58dfd728afa36757a797ac188d1"},
	} {
		key, nonce := [32]byte(raw(t, c.key)), [12]byte(raw(t, c.nonce))
		got := chacha.Xor(key, c.counter, nonce, []byte(c.b))
		if hex.EncodeToString(got) != c.want {
			t.Errorf("P4.1: Xor %d: %x, want %s", i, got, c.want)
		}
		if back := chacha.Xor(key, c.counter, nonce, got); string(back) != c.b {
			t.Errorf("P4.1: Xor %d, back: %q, want %q", i, back, c.b)
		}
	}
}

// upTo is the n bytes from 0 on.
func upTo(n int) []byte {
	b := make([]byte, n)
	for i := range b {
		b[i] = byte(i)
	}
	return b
}

func TestXorOfEveryLength(t *testing.T) {
	key, nonce := [32]byte(text(32)), [12]byte(text(12))
	for n := range 330 {
		for _, counter := range counters {
			checkXor(t, key, counter, nonce, text(n))
		}
	}
	for _, n := range []int{1 << 12, 1<<12 + 1, 1 << 16, 1<<17 - 1} {
		checkXor(t, key, 1, nonce, text(n))
	}
}

func TestXorOfEdges(t *testing.T) {
	for _, key := range keys() {
		for _, nonce := range nonces() {
			for _, counter := range counters {
				for _, b := range [][]byte{same(0, 200), same(0xff, 200), text(200)} {
					checkXor(t, key, counter, nonce, b)
				}
			}
		}
	}
}

func TestXorOfNothing(t *testing.T) {
	for _, none := range [][]byte{nil, {}, text(5)[:0], text(200)[:0]} {
		for _, counter := range counters {
			if got := chacha.Xor([32]byte(text(32)), counter, [12]byte{}, none); len(got) != 0 {
				t.Errorf("P4.1: Xor of nothing: %x", got)
			}
		}
	}
}

// TestXorGoesRound holds that behind the last counter comes nought, and that the nonce takes nothing over from it.
func TestXorGoesRound(t *testing.T) {
	for _, nonce := range nonces() {
		key := [32]byte(text(32))
		for before := range 5 {
			got := chacha.Xor(key, math.MaxUint32-uint32(before), nonce, make([]byte, 64*8))
			for i := range 8 {
				counter := uint32(i - before - 1)
				want := chacha.Block(key, counter, nonce)
				if !bytes.Equal(got[64*i:64*(i+1)], want[:]) {
					t.Errorf("P4.1: Xor, the block %d is not that of the counter %d, nonce %x", i, counter, nonce)
				}
			}
		}
	}
}

// TestXorFromFurtherOn holds that a text that is cut at a block's end goes on with the counter.
func TestXorFromFurtherOn(t *testing.T) {
	key, nonce, b := [32]byte(text(32)), [12]byte(text(12)), text(64*6+5)
	for _, counter := range counters {
		whole := chacha.Xor(key, counter, nonce, b)
		for i := range 7 {
			if got := chacha.Xor(key, counter+uint32(i), nonce, b[64*i:]); !bytes.Equal(got, whole[64*i:]) {
				t.Errorf("P4.1: Xor from the block %d behind %d on: %x, want %x", i, counter, got, whole[64*i:])
			}
		}
	}
}

// spare answers b with spare room behind it that is filled with fill.
func spare(b []byte, fill byte) []byte {
	return append(bytes.Clone(b), same(fill, 200)...)[:len(b)]
}

// full is b with its spare room.
func full(b []byte) []byte { return b[:cap(b)] }

// TestArgumentsStay hands in a list with spare room and looks at all of it behind the call.
func TestArgumentsStay(t *testing.T) {
	key, nonce := [32]byte(text(32)), [12]byte(text(12))
	for _, n := range []int{0, 1, 63, 64, 65, 127, 128, 129, 200} {
		for _, fill := range []byte{0, 0xa5} {
			b := spare(text(n), fill)
			before := bytes.Clone(full(b))
			if got := chacha.Xor(key, 7, nonce, b); !bytes.Equal(got, wantXor(key, 7, nonce, text(n))) {
				t.Errorf("P0.3: Xor of %d bytes hangs on spare room: %x", n, got)
			}
			if !bytes.Equal(full(b), before) {
				t.Errorf("P0.3: Xor changed a list of %d bytes", n)
			}
		}
	}
}

// TestXorAnswersNewMemory writes into what was handed in and what was answered, all its room.
func TestXorAnswersNewMemory(t *testing.T) {
	key, nonce := [32]byte(text(32)), [12]byte(text(12))
	for _, n := range []int{0, 1, 63, 64, 65, 128, 200} {
		b := spare(text(n), 0xa5)
		before := bytes.Clone(full(b))
		want := wantXor(key, 7, nonce, b)
		one, two := chacha.Xor(key, 7, nonce, b), chacha.Xor(key, 7, nonce, b)
		for i := range full(one) {
			full(one)[i] ^= 0xff
		}
		if !bytes.Equal(full(b), before) {
			t.Errorf("P0.3: what Xor of %d bytes answers is what was handed in", n)
		}
		for i := range full(b) {
			full(b)[i] ^= 0xff
		}
		if !bytes.Equal(two, want) || !bytes.Equal(chacha.Xor(key, 7, nonce, text(n)), want) {
			t.Errorf("P0.3: Xor of %d bytes answers memory that it keeps, or keeps what was handed in", n)
		}
	}
}

// TestNothingIsKept asks the same between other calls.
func TestNothingIsKept(t *testing.T) {
	key, nonce := [32]byte(text(32)), [12]byte(text(12))
	first, block := chacha.Xor(key, 3, nonce, text(100)), chacha.Block(key, 3, nonce)
	for _, other := range keys() {
		chacha.Xor(other, 3, nonce, text(70))
		chacha.Block(other, 4, [12]byte{})
		if !bytes.Equal(chacha.Xor(key, 3, nonce, text(100)), first) || chacha.Block(key, 3, nonce) != block {
			t.Error("P0.5: what is answered hangs on the calls before")
		}
	}
}

func FuzzXor(f *testing.F) {
	f.Add(text(32), uint32(1), text(12), []byte("a message"))
	f.Add(same(0xff, 32), uint32(math.MaxUint32), same(0, 12), text(130))
	f.Fuzz(func(t *testing.T, k []byte, counter uint32, n []byte, b []byte) {
		var key [32]byte
		var nonce [12]byte
		copy(key[:], k)
		copy(nonce[:], n)
		checkXor(t, key, counter, nonce, b)
	})
}
