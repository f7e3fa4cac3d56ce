package tape_test

import (
	"bytes"
	"crypto/sha256"
	"encoding/binary"
	"encoding/hex"
	"math"
	"testing"

	"indenture/num"
	"indenture/sha"
	"indenture/tape"
)

const most = 4000

// seeds are such of either sign, about the numbers from which on they take another byte, and the edges.
func seeds() []int64 {
	return []int64{0, 1, -1, 2, -2, 5, -5, 63, 64, -64, -65, 127, 128, 255, 256, 8191, 8192, -8192, -8193,
		1 << 31, -1 << 31, 1 << 32, 1 << 62, -1 << 62, 1<<62 + 1, math.MaxInt64 - 1, math.MaxInt64,
		math.MinInt64 + 1, math.MinInt64}
}

// refused are the numbers of bytes that no tape gives.
func refused() []int {
	return []int{-1, -2, -32, -most, most + 1, most + 2, most + 32, 2 * most, 1 << 16, 1 << 20, 1 << 31, -1 << 31,
		1 << 32, 1<<32 + 1, -1 << 32, 1<<32 + most, 1 << 62, math.MaxInt - 1, math.MaxInt, math.MinInt + 1, math.MinInt}
}

// lengths are nothing, one byte, those about the ends of the first sums, and those about the most.
func lengths() []int {
	var l []int
	for n := range 131 {
		l = append(l, n)
	}
	return append(l, 1000, 3967, 3968, 3969, most-1, most)
}

// want is the first n bytes of a seed's tape, by the library's sums and its own numbers of the same form.
func want(seed int64, n int) []byte {
	var b []byte
	for i := int64(0); len(b) < n; i++ {
		sum := sha256.Sum256(binary.AppendVarint(binary.AppendVarint(nil, seed), i))
		b = append(b, sum[:]...)
	}
	return b[:n]
}

// checkNext holds that x gives b next.
func checkNext(t *testing.T, what string, x *tape.Tape, b []byte) {
	t.Helper()
	if got := x.Next(len(b)); !bytes.Equal(got, b) {
		t.Errorf("P7.1: %s, the next %d bytes: %x, want %x", what, len(b), got, b)
	}
}

// checkRefused holds that x answers nil to each wrong number of bytes.
func checkRefused(t *testing.T, what string, x *tape.Tape) {
	t.Helper()
	for _, n := range refused() {
		if got := x.Next(n); got != nil {
			t.Errorf("P7.1: %s, Next of %d: %d bytes, want nil", what, n, len(got))
		}
	}
}

// at is a tape of the seed behind its first n bytes.
func at(seed int64, n int) *tape.Tape {
	x := tape.New(seed)
	for ; n > most; n -= most {
		x.Next(most)
	}
	x.Next(n)
	return x
}

// TestKnown holds the beginnings of tapes that another program worked out.
func TestKnown(t *testing.T) {
	for _, c := range []struct {
		seed int64
		text string
	}{
		{0, "96a296d224f285c67bee93c30f8a309157f0daa35dc5b87e410b78630a09cfc7" +
			"fcf0a6c700dd13e274b6fba8deea8dd9b26e4eedde3495717cac8408c9c5177f4f35212d12f9"},
		{5, "102b51b9765a56a3e899f7cf0ee38e5251f9c503b357b330a49183eb7b155604" +
			"ad406961a6518e07ac4e40031f9e4e0486f443208da45ef02e336c3d4a0a50bbab34c342b3b9"},
		{-5, "a2c4aed1cf757cd9a509734a267ffc7b1166b55f4c8f9c3e3550c56e743328fc" +
			"f9535535516e208e35e9c0e78efc9f998672699f00c34688d01678bbe58b95a6f0f639189843"},
		{64, "0a635ac8c2ad27f595e9687005e35896de952f3df549b892e66fabaf1c724c3e" +
			"81df78c8eb7dbdbf235ad3a08fafc0c042fcfa5c0a1c20c16de45b9fce22c7e1bd0c56477a4e"},
		{math.MaxInt64, "13e331bc622a4ab5eb6f5ce1b26a01272e43bdd562192ee752d98552c6b3559c" +
			"4874a30721c7b221c79d0a7e79046fffe8ef78be3b8214d16c2fedb3b2f097ead5bd14f51738"},
		{math.MinInt64, "f02e0810f460cde7f56fb9a53ef2f3ef7bb0e0bf1052fcb7a1cbf29becc290c0" +
			"abab45cd64a1dd0f7a88d84eecf9a2b08e13309a6f19566799980f158e4ccf2c9f5363ed8210"},
	} {
		if got := hex.EncodeToString(tape.New(c.seed).Next(len(c.text) / 2)); got != c.text {
			t.Errorf("P7.1: the tape of %d: %s, want %s", c.seed, got, c.text)
		}
	}
}

// TestOfNumAndSha holds the chapter's own words, by the layers that it names.
func TestOfNumAndSha(t *testing.T) {
	for _, seed := range seeds() {
		x := tape.New(seed)
		for i := range int64(130) {
			sum := sha.Sum(num.Put(nil, seed), num.Put(nil, i))
			checkNext(t, "a sum", x, sum[:])
		}
	}
}

func TestFirstPiece(t *testing.T) {
	for _, seed := range seeds() {
		for _, n := range lengths() {
			checkNext(t, "New", tape.New(seed), want(seed, n))
		}
	}
}

// TestTwoPieces has pieces of all lengths behind pieces of all lengths.
func TestTwoPieces(t *testing.T) {
	for _, seed := range []int64{0, -7, math.MaxInt64, math.MinInt64} {
		all := want(seed, 3*most)
		for _, n := range lengths() {
			for _, k := range lengths() {
				x := tape.New(seed)
				checkNext(t, "the first piece", x, all[:n])
				checkNext(t, "the second piece", x, all[n:n+k])
				checkNext(t, "the third piece", x, all[n+k:n+k+40])
			}
		}
	}
}

// TestSmallPiecesAreOne cuts one tape into pieces of each length, with nothing asked between.
func TestSmallPiecesAreOne(t *testing.T) {
	for _, seed := range []int64{3, -3, math.MaxInt64, math.MinInt64} {
		great := tape.New(seed).Next(most)
		if !bytes.Equal(great, want(seed, most)) {
			t.Errorf("P7.1: the tape of %d, one great piece: %x", seed, great)
		}
		for n := 1; n <= 130; n++ {
			x := tape.New(seed)
			var all []byte
			for len(all) < most {
				all = append(all, x.Next(min(n, most-len(all)))...)
				all = append(all, x.Next(0)...)
			}
			if !bytes.Equal(all, great) {
				t.Errorf("P7.1: the tape of %d in pieces of %d is not the one great piece", seed, n)
			}
		}
	}
}

// TestRisingPieces has each piece one byte longer than the one ahead of it.
func TestRisingPieces(t *testing.T) {
	for _, seed := range seeds() {
		all := want(seed, 200*201/2)
		x := tape.New(seed)
		for n := range 201 {
			checkNext(t, "rising", x, all[:n])
			all = all[n:]
		}
	}
}

// TestLongTape goes over the places from which on the number of a sum takes another byte.
func TestLongTape(t *testing.T) {
	sums := 8192 + 100
	if !testing.Short() {
		sums = 1<<20 + 100
	}
	for _, seed := range []int64{9, -9} {
		all := want(seed, 32*sums)
		x := tape.New(seed)
		for i, n := 0, 0; len(all) > 0; i++ {
			n = min(most-i%33, len(all))
			if got := x.Next(n); !bytes.Equal(got, all[:n]) {
				t.Fatalf("P7.1: the tape of %d, the piece %d, of %d bytes", seed, i, n)
			}
			all = all[n:]
		}
	}
}

// TestNothing asks for no bytes, again and again.
func TestNothing(t *testing.T) {
	for _, n := range lengths() {
		x := at(5, n)
		for range 5 {
			if got := x.Next(0); len(got) != 0 {
				t.Errorf("P7.1: Next of 0 behind %d bytes: %x", n, got)
			}
		}
		checkNext(t, "behind nothing", x, want(5, n+40)[n:])
	}
}

func TestTooManyOrTooFew(t *testing.T) {
	for _, seed := range []int64{0, 5, -5, math.MaxInt64, math.MinInt64} {
		for _, n := range lengths() {
			x := tape.New(seed)
			checkRefused(t, "at the beginning", x)
			checkNext(t, "behind a wrong number", x, want(seed, n))
			checkRefused(t, "in the midst", x)
			c := x.Copy()
			checkRefused(t, "a copy", c)
			checkNext(t, "behind wrong numbers", x, want(seed, n+70)[n:])
			checkNext(t, "a copy behind wrong numbers", c, want(seed, n+70)[n:])
		}
	}
}

// TestEachWrongNumber holds that none of them lets anything go on by itself.
func TestEachWrongNumber(t *testing.T) {
	for _, n := range refused() {
		for _, k := range []int{0, 1, 31, 32, 33} {
			x := at(8, k)
			if got := x.Next(n); got != nil {
				t.Errorf("P7.1: Next of %d: %d bytes, want nil", n, len(got))
			}
			checkNext(t, "behind a wrong number", x, want(8, k+100)[k:])
		}
	}
}

func TestNil(t *testing.T) {
	var none *tape.Tape
	for _, n := range append(lengths(), refused()...) {
		if got := none.Next(n); got != nil {
			t.Errorf("P7.1: Next of %d of a nil Tape: %x", n, got)
		}
	}
	if none.Copy() != nil || none.Copy().Copy() != nil || none.Copy().Next(1) != nil {
		t.Error("P7.1: Copy of a nil Tape is not nil")
	}
}

// TestOfNoMaking holds that a Tape that New did not make ends no program.
func TestOfNoMaking(t *testing.T) {
	x := new(tape.Tape)
	checkRefused(t, "of no making", x)
	if got := x.Copy(); got == nil || got == x {
		t.Error("P7.1: Copy of a Tape of no making")
	}
	for _, n := range lengths() {
		if got := x.Next(n); len(got) != n {
			t.Errorf("P7.1: %d bytes of %d of a Tape of no making", len(got), n)
		}
	}
}

// TestCopyGoesOnByItself copies at each place of the first sums, and has either one go on first.
func TestCopyGoesOnByItself(t *testing.T) {
	for _, seed := range []int64{4, -4, math.MaxInt64, math.MinInt64} {
		all := want(seed, 3*most)
		for _, n := range lengths() {
			for _, k := range []int{0, 1, 5, 31, 32, 33, 64, 100, most} {
				for _, copyFirst := range []bool{true, false} {
					x := at(seed, n)
					c := x.Copy()
					if c == nil || c == x {
						t.Fatalf("P7.1: Copy behind %d bytes is no other one", n)
					}
					first, second := x, c
					if copyFirst {
						first, second = c, x
					}
					checkNext(t, "the first of the two", first, all[n:n+k])
					checkNext(t, "the second of the two", second, all[n:n+50])
					checkNext(t, "the first again", first, all[n+k:n+k+70])
					checkNext(t, "the second again", second, all[n+50:n+90])
				}
			}
		}
	}
}

// TestInTurns has a tape and its copy go on in turns, in pieces that are not alike.
func TestInTurns(t *testing.T) {
	all := want(-6, 2*most)
	for n := range 70 {
		x := at(-6, n)
		c := x.Copy()
		ofX, ofC := all[n:], all[n:]
		for i := range 60 {
			k, m := i*7%40, i*11%50
			checkNext(t, "in turns", x, ofX[:k])
			checkNext(t, "a copy in turns", c, ofC[:m])
			ofX, ofC = ofX[k:], ofC[m:]
		}
	}
}

func TestCopyOfACopy(t *testing.T) {
	all := want(12, most)
	for n := range 70 {
		for k := range 70 {
			x := at(12, n)
			c := x.Copy()
			checkNext(t, "a copy", c, all[n:n+k])
			d := c.Copy()
			e := d.Copy()
			checkNext(t, "a copy of a copy", d, all[n+k:n+k+45])
			checkNext(t, "the tape", x, all[n:n+90])
			checkNext(t, "the copy", c, all[n+k:n+k+3])
			checkNext(t, "a copy of the copy of a copy", e, all[n+k:n+k+64])
			checkNext(t, "a copy of a copy again", d, all[n+k+45:n+k+100])
		}
	}
}

// TestManyCopies holds that copies that are made and not asked turn nothing.
func TestManyCopies(t *testing.T) {
	all := want(20, 2000)
	x := tape.New(20)
	var copies []*tape.Tape
	for i := range 1000 {
		copies = append(copies, x.Copy())
		checkNext(t, "copied each time", x, all[i:i+1])
	}
	for i, c := range copies {
		checkNext(t, "a copy of long ago", c, all[i:i+100])
	}
	checkNext(t, "behind its copies", x, all[1000:])
}

// TestNewIsAnother has two tapes of one seed, and those of others between.
func TestNewIsAnother(t *testing.T) {
	x, y := tape.New(7), tape.New(7)
	for i := range 50 {
		checkNext(t, "one of two", x, want(7, 40*(i+1))[40*i:])
		checkNext(t, "another seed", tape.New(int64(i)), want(int64(i), 50))
	}
	checkNext(t, "the other of two", y, want(7, 2000))
}

// TestSeedsAreToldApart holds that each bit of a seed counts.
func TestSeedsAreToldApart(t *testing.T) {
	seen := map[string]int64{}
	for _, seed := range []int64{0, -1} {
		for bit := range 64 {
			s := seed ^ 1<<bit
			begin := string(tape.New(s).Next(32))
			if other, ok := seen[begin]; ok {
				t.Errorf("P7.1: the tapes of %d and %d begin alike", s, other)
			}
			seen[begin] = s
		}
	}
}

// turn changes all of b, its spare room too.
func turn(b []byte) {
	b = b[:cap(b)]
	for i := range b {
		b[i] ^= 0xff
	}
}

// TestAnswersAreNewMemory writes into each piece, its spare room too, behind and between the calls.
func TestAnswersAreNewMemory(t *testing.T) {
	all := want(15, 3*most)
	for _, n := range lengths() {
		for _, k := range []int{0, 1, 16, 31, 32, 33, 64, 100} {
			x := at(15, k)
			before := x.Copy()
			early := before.Copy().Next(100)
			b := x.Next(n)
			same := before.Copy().Next(n)
			behind := x.Copy()
			turn(b)
			checkNext(t, "P0.3: behind what was written over", x, all[k+n:k+n+40])
			checkNext(t, "P0.3: a copy of before", before, all[k : k+n+40][:min(n+40, most)])
			checkNext(t, "P0.3: a copy of behind", behind, all[k+n:k+n+40])
			if !bytes.Equal(early, all[k:k+100]) || !bytes.Equal(same, all[k:k+n]) {
				t.Errorf("P0.3: %d bytes behind %d share memory with what was answered before", n, k)
			}
			turn(same)
			checkNext(t, "P0.3: a new tape", tape.New(15), all[:100])
		}
	}
}

// TestPiecesShareNothing writes over each of many pieces of one tape and looks at all the others.
func TestPiecesShareNothing(t *testing.T) {
	all := want(16, most)
	for _, n := range []int{1, 7, 31, 32, 33, 64, 100} {
		x := tape.New(16)
		var pieces [][]byte
		for range 20 {
			pieces = append(pieces, x.Next(n))
		}
		for i := range pieces {
			turn(pieces[i])
			for j := i + 1; j < len(pieces); j++ {
				if !bytes.Equal(pieces[j], all[n*j:n*j+n]) {
					t.Fatalf("P0.3: the pieces %d and %d of %d bytes share memory", i, j, n)
				}
			}
		}
		for i := len(pieces) - 1; i >= 0; i-- {
			turn(pieces[i])
			if !bytes.Equal(pieces[i], all[n*i:n*i+n]) {
				t.Fatalf("P0.3: the piece %d of %d bytes was changed through another", i, n)
			}
		}
		checkNext(t, "P0.3: behind the pieces", x, all[20*n:20*n+50])
	}
}

// TestSpareRoomTellsNothing holds that no byte of the tape is to be seen ahead of its time.
func TestSpareRoomTellsNothing(t *testing.T) {
	for _, n := range lengths() {
		for _, k := range []int{0, 1, 31, 32} {
			x := at(17, k)
			b := x.Next(n)
			for _, r := range b[n:cap(b)] {
				if r != 0 {
					t.Fatalf("P7.1: behind %d bytes stands more in the spare room", n)
				}
			}
			checkNext(t, "spare room", x, want(17, k+n+40)[k+n:])
		}
	}
}

func FuzzNext(f *testing.F) {
	f.Add(int64(0), 0, 1, 32, 64)
	f.Add(int64(math.MinInt64), 31, -1, most, most+1)
	f.Add(int64(math.MaxInt64), math.MinInt, 33, math.MaxInt, 5)
	f.Fuzz(func(t *testing.T, seed int64, a, b, c, d int) {
		all := want(seed, 5*most)
		x := tape.New(seed)
		copies, places, gone := []*tape.Tape{}, []int{}, 0
		for _, n := range []int{a, b, c, d} {
			copies, places = append(copies, x.Copy()), append(places, gone)
			if n < 0 || n > most {
				if got := x.Next(n); got != nil {
					t.Errorf("P7.1: Next of %d: %d bytes, want nil", n, len(got))
				}
				continue
			}
			checkNext(t, "a piece", x, all[gone:gone+n])
			gone += n
		}
		for i, y := range copies {
			checkNext(t, "a copy", y, all[places[i]:places[i]+most])
		}
	})
}
