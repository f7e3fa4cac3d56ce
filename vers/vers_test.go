package vers_test

import (
	"bytes"
	"crypto/sha256"
	"encoding/binary"
	"encoding/hex"
	"math"
	"testing"

	"indenture/api"
	"indenture/num"
	"indenture/sha"
	"indenture/vers"
)

// counted is a hash whose bytes go up by one from the first on.
func counted(first byte) api.Hash {
	var h api.Hash
	for i := range h {
		h[i] = first + byte(i)
	}
	return h
}

func full() api.Hash { return api.Hash(bytes.Repeat([]byte{0xff}, 32)) }

// some is a structure that may be, with no two parts alike.
func some() api.Vers {
	return api.Vers{Client: 2, N: 3, Count: 9, Prev: counted(1), Root: counted(0x40), Epoch: 4, Vec: [4]int64{1, 3, 5, 0}, Tag: counted(0x80)}
}

// least and most have each number at an end of what may be.
func least() api.Vers { return api.Vers{Client: 1, N: 1, Count: 1} }

func most() api.Vers {
	return api.Vers{Client: 4, N: 150, Count: 150, Prev: full(), Root: full(), Epoch: 150, Vec: [4]int64{150, 150, 150, 150}, Tag: full()}
}

// beyond are structures that may not be: of numbers below nought, and of very large ones.
func beyond() []api.Vers {
	return []api.Vers{
		{Client: 5, N: 151, Count: 152, Epoch: 153, Vec: [4]int64{154, 155, 156, 157}},
		{Client: -1, N: -2, Count: -3, Prev: counted(3), Epoch: -4, Vec: [4]int64{-5, -6, -7, -8}, Tag: counted(4)},
		{Client: -1, N: math.MaxInt64, Count: math.MinInt64, Prev: full(), Epoch: -64, Vec: [4]int64{64, -65, math.MinInt64, math.MaxInt64}, Tag: full()},
		{Client: math.MaxInt, N: 1 << 40, Count: 1 << 32, Root: full(), Epoch: 1<<31 - 1, Vec: [4]int64{1 << 62, 1<<62 - 1, -1 << 62, -1<<62 - 1}},
		{Client: math.MinInt, N: math.MinInt64, Count: math.MaxInt64, Epoch: math.MinInt64, Vec: [4]int64{math.MinInt64, math.MinInt64 + 1, math.MaxInt64 - 1, math.MaxInt64}},
	}
}

// structures are those that May takes and those that it does not; no two are the same.
func structures() []api.Vers {
	return append([]api.Vers{{}, {Root: counted(9)}, {Tag: counted(9)}, some(), least(), most()}, beyond()...)
}

// edges are the ends of int64, of int32 and of what may be, and those about each number from which on num.Put takes another byte.
func edges() []int64 {
	l := []int64{0, 1, 2, 3, 4, 5, -1, -2, 149, 150, 151, 1 << 31, 1 << 32, 1<<32 + 1, 1<<32 + 150, -1 << 32, math.MaxInt64, math.MaxInt64 - 1, math.MinInt64, math.MinInt64 + 1}
	for bits := 6; bits < 63; bits += 7 {
		x := int64(1) << bits
		l = append(l, x-1, x, x+1, -x-1, -x, -x+1)
	}
	return l
}

// part is a field that holds a number, and what it may be.
type part struct {
	name        string
	least, most int64
	of          func(v *api.Vers) *int64
}

// parts are the fields that hold numbers, but for Client, which is an int.
func parts() []part {
	l := []part{
		{"N", 1, 150, func(v *api.Vers) *int64 { return &v.N }},
		{"Count", 1, 150, func(v *api.Vers) *int64 { return &v.Count }},
		{"Epoch", 0, 150, func(v *api.Vers) *int64 { return &v.Epoch }},
	}
	for i, name := range []string{"Vec[0]", "Vec[1]", "Vec[2]", "Vec[3]"} {
		l = append(l, part{name, 0, 150, func(v *api.Vers) *int64 { return &v.Vec[i] }})
	}
	return l
}

// hashPart is a field that holds a hash.
type hashPart struct {
	name string
	of   func(v *api.Vers) *api.Hash
}

func hashParts() []hashPart {
	return []hashPart{
		{"Prev", func(v *api.Vers) *api.Hash { return &v.Prev }},
		{"Root", func(v *api.Vers) *api.Hash { return &v.Root }},
		{"Tag", func(v *api.Vers) *api.Hash { return &v.Tag }},
	}
}

// eachTurned hands f each form of v in which one bit of one field is turned.
func eachTurned(v api.Vers, f func(name string, turned api.Vers)) {
	for bit := range 64 {
		w := v
		w.Client ^= 1 << bit
		f("Client", w)
		for _, p := range parts() {
			w := v
			*p.of(&w) ^= 1 << bit
			f(p.name, w)
		}
	}
	for bit := range 256 {
		for _, p := range hashParts() {
			w := v
			p.of(&w)[bit/8] ^= 1 << (bit % 8)
			f(p.name, w)
		}
	}
}

// wantBytes is what the chapter says, by the library's numbers: its varints are the document's.
func wantBytes(v api.Vers) []byte {
	b := binary.AppendVarint(nil, int64(v.Client))
	b = binary.AppendVarint(b, v.N)
	b = binary.AppendVarint(b, v.Count)
	b = append(b, v.Prev[:]...)
	b = append(b, v.Root[:]...)
	b = binary.AppendVarint(b, v.Epoch)
	for i := range 4 {
		b = binary.AppendVarint(b, v.Vec[i])
	}
	return b
}

func wantHash(v api.Vers) api.Hash {
	if v == (api.Vers{}) {
		return api.Hash{}
	}
	return sha256.Sum256(append(wantBytes(v), v.Tag[:]...))
}

// checkMade holds Bytes and Hash of v against the library.
func checkMade(t testing.TB, what string, v api.Vers) {
	t.Helper()
	if got := vers.Bytes(v); !bytes.Equal(got, wantBytes(v)) {
		t.Errorf("P14.1: %s: Bytes of %v: %x, want %x", what, v, got, wantBytes(v))
	}
	if got := vers.Hash(v); got != wantHash(v) {
		t.Errorf("P14.1: %s: Hash of %v: %x, want %x", what, v, got, wantHash(v))
	}
}

func checkMay(t *testing.T, what string, v api.Vers, want bool) {
	t.Helper()
	if vers.May(v) != want {
		t.Errorf("P14.1: %s: May of %v is not %v", what, v, want)
	}
}

func TestMay(t *testing.T) {
	for _, v := range []api.Vers{some(), least(), most()} {
		checkMay(t, "at the ends, and between", v, true)
	}
	for _, v := range append(beyond(), api.Vers{}) {
		checkMay(t, "may not be", v, false)
	}
}

// TestMayOfEachNumber takes each field over its ends, with all the others at theirs.
func TestMayOfEachNumber(t *testing.T) {
	for _, base := range []api.Vers{some(), least(), most()} {
		for _, n := range edges() {
			v := base
			v.Client = int(n)
			checkMay(t, "Client", v, n >= 1 && n <= 4)
			for _, p := range parts() {
				v := base
				*p.of(&v) = n
				checkMay(t, p.name, v, n >= p.least && n <= p.most)
			}
		}
		for n := int64(-300); n <= 300; n++ {
			v := base
			v.Client = int(n)
			checkMay(t, "Client", v, n >= 1 && n <= 4)
			for _, p := range parts() {
				v := base
				*p.of(&v) = n
				checkMay(t, p.name, v, n >= p.least && n <= p.most)
			}
		}
	}
}

// TestMayOfNumbersAlone holds that the hashes tell May nothing, nor what one number is beside another.
func TestMayOfNumbersAlone(t *testing.T) {
	for _, p := range hashParts() {
		for _, h := range []api.Hash{{}, full(), counted(5)} {
			v, w := some(), api.Vers{}
			*p.of(&v), *p.of(&w) = h, h
			checkMay(t, p.name, v, true)
			checkMay(t, p.name+" alone", w, false)
		}
	}
	checkMay(t, "N beyond Count, and other than in Vec", api.Vers{Client: 3, N: 150, Count: 1, Vec: [4]int64{0, 150, 0, 7}}, true)
}

// TestWrittenOut holds Bytes and Hash against what another program made.
func TestWrittenOut(t *testing.T) {
	const (
		noughts = "0000000000000000000000000000000000000000000000000000000000000000"
		ones    = "ffffffffffffffffffffffffffffffffffffffffffffffffffffffffffffffff"
	)
	for _, c := range []struct {
		v           api.Vers
		bytes, hash string
	}{
		{api.Vers{}, "000000" + noughts + noughts + "0000000000", noughts},
		{some(),
			"040612" + "0102030405060708090a0b0c0d0e0f101112131415161718191a1b1c1d1e1f20" +
				"404142434445464748494a4b4c4d4e4f505152535455565758595a5b5c5d5e5f" + "0802060a00",
			"7d25c80320c1c17e0156ae5e8c9c57bc5a04d47f6aecbc9cbe973a2c3efeb99d"},
		{api.Vers{Client: 1, N: 1, Count: 1, Root: counted(7), Vec: [4]int64{1}},
			"020202" + noughts + "0708090a0b0c0d0e0f101112131415161718191a1b1c1d1e1f20212223242526" + "0002000000",
			"8069b76c1b38dbfa5f4f62163bf5bc20ebc82d83a4513000bea470997945b096"},
		{api.Vers{Client: 4, N: 150, Count: 150, Prev: counted(0xe0), Root: counted(0xf0), Epoch: 150, Vec: [4]int64{150, 150, 150, 150}, Tag: counted(9)},
			"08ac02ac02" + "e0e1e2e3e4e5e6e7e8e9eaebecedeeeff0f1f2f3f4f5f6f7f8f9fafbfcfdfeff" +
				"f0f1f2f3f4f5f6f7f8f9fafbfcfdfeff000102030405060708090a0b0c0d0e0f" + "ac02ac02ac02ac02ac02",
			"688823cf7c21e8888bcd674a2563a0e4f057e27006cd85f4b46ccee411473399"},
		{api.Vers{Client: -1, N: math.MaxInt64, Count: math.MinInt64, Prev: full(), Epoch: -64, Vec: [4]int64{64, -65, math.MinInt64, math.MaxInt64}, Tag: full()},
			"01" + "feffffffffffffffff01" + "ffffffffffffffffff01" + ones + noughts +
				"7f" + "8001" + "8101" + "ffffffffffffffffff01" + "feffffffffffffffff01",
			"81a187e81d5e9ab94c914c369b915d4325f5cfcfd2d591307548a587f88a6080"},
	} {
		if got := hex.EncodeToString(vers.Bytes(c.v)); got != c.bytes {
			t.Errorf("P14.1: Bytes of %v: %s, want %s", c.v, got, c.bytes)
		}
		h := vers.Hash(c.v)
		if got := hex.EncodeToString(h[:]); got != c.hash {
			t.Errorf("P14.1: Hash of %v: %s, want %s", c.v, got, c.hash)
		}
	}
}

// TestByTheLayersBelow goes the road that the chapter names, with the layers that it names.
func TestByTheLayersBelow(t *testing.T) {
	for _, v := range structures() {
		b := num.Put(num.Put(num.Put(nil, int64(v.Client)), v.N), v.Count)
		b = append(append(b, v.Prev[:]...), v.Root[:]...)
		b = num.Put(b, v.Epoch)
		for _, n := range v.Vec {
			b = num.Put(b, n)
		}
		if got := vers.Bytes(v); !bytes.Equal(got, b) {
			t.Errorf("P14.1: Bytes of %v: %x, want %x", v, got, b)
		}
		if v != (api.Vers{}) && vers.Hash(v) != sha.Sum(b, v.Tag[:]) {
			t.Errorf("P14.1: Hash of %v is not the sum of Bytes and Tag", v)
		}
	}
}

// TestEachNumber takes each number over all lengths that num.Put knows, ahead of the zero structure and of others.
func TestEachNumber(t *testing.T) {
	for _, base := range structures() {
		for _, n := range edges() {
			v := base
			v.Client = int(n)
			checkMade(t, "Client", v)
			for _, p := range parts() {
				v := base
				*p.of(&v) = n
				checkMade(t, p.name, v)
			}
		}
	}
}

func TestHashOfNothing(t *testing.T) {
	if vers.Hash(api.Vers{}) != (api.Hash{}) {
		t.Error("P14.1: Hash of a zero Vers is not all noughts")
	}
}

// TestHashOfOneField holds that a bit in any field makes a structure one that is not zero, and another than all such.
func TestHashOfOneField(t *testing.T) {
	seen := map[api.Hash]string{{}: "nothing"}
	eachTurned(api.Vers{}, func(name string, v api.Vers) {
		checkMade(t, name+" alone", v)
		h := vers.Hash(v)
		if other, ok := seen[h]; ok {
			t.Errorf("P14.1: Hash of %v: that of another one too, of %s", v, other)
		}
		seen[h] = name
	})
}

// TestAllCounts holds that each bit of each field counts in Hash, and in Bytes but for Tag.
func TestAllCounts(t *testing.T) {
	for _, v := range structures() {
		h, b := vers.Hash(v), vers.Bytes(v)
		eachTurned(v, func(name string, turned api.Vers) {
			checkMade(t, name+" turned", turned)
			if vers.Hash(turned) == h {
				t.Errorf("P14.1: %s of %v tells Hash nothing", name, v)
			}
			if same := bytes.Equal(vers.Bytes(turned), b); same != (name == "Tag") {
				t.Errorf("P14.1: %s of %v turned: Bytes the same: %v", name, v, same)
			}
		})
	}
}
