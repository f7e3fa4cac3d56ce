package vers_test

import (
	"bytes"
	"crypto/hmac"
	"crypto/sha256"
	"encoding/hex"
	"math"
	"testing"

	"indenture/api"
	"indenture/box"
	"indenture/tape"
	"indenture/vers"
)

// boxes are one of either mode.
func boxes() map[string]*box.Box {
	return map[string]*box.Box{"real": box.New(api.Real, nil), "ideal": box.New(api.Ideal, tape.New(1))}
}

func boxKeys() []api.Hash {
	return []api.Hash{{}, full(), {0: 1}, {31: 0x80}, counted(0xc0)}
}

func someKey() api.Hash { return counted(0xc0) }

func checkIs(t *testing.T, what string, x *box.Box, key api.Hash, v api.Vers, want bool) {
	t.Helper()
	if vers.Is(x, key, v) != want {
		t.Errorf("P14.1: %s: Is of %v is not %v", what, v, want)
	}
}

// TestSign holds Sign against the box's own Mark, and all but Tag against what was handed in.
func TestSign(t *testing.T) {
	for mode, x := range boxes() {
		for _, key := range boxKeys() {
			for _, v := range structures() {
				want := v
				want.Tag = x.Mark(key, wantBytes(v))
				got := vers.Sign(x, key, v)
				if got != want {
					t.Errorf("P14.1: %s: Sign of %v: %v, want %v", mode, v, got, want)
				}
				checkIs(t, mode, x, key, got, true)
			}
		}
	}
}

// TestSignFirst holds that the mark is the box's where Sign is the first to ask for it.
func TestSignFirst(t *testing.T) {
	for mode, x := range boxes() {
		for _, v := range structures() {
			got := vers.Sign(x, someKey(), v)
			if got.Tag != x.Mark(someKey(), wantBytes(v)) || got.Tag == (api.Hash{}) {
				t.Errorf("P14.1: %s: Sign of %v: the Tag is %x, not the box's Mark", mode, v, got.Tag)
			}
		}
	}
}

// TestSignReal holds the real mark against the library's HMAC, and against what another program made.
func TestSignReal(t *testing.T) {
	x := box.New(api.Real, nil)
	for _, key := range boxKeys() {
		for _, v := range structures() {
			h := hmac.New(sha256.New, key[:])
			h.Write(wantBytes(v))
			if got := vers.Sign(x, key, v).Tag; got != api.Hash(h.Sum(nil)) {
				t.Errorf("P14.1: Sign of %v: Tag %x", v, got)
			}
		}
	}
	for _, c := range []struct {
		v    api.Vers
		key  api.Hash
		want string
	}{
		{api.Vers{}, api.Hash{}, "9a1b7d18e16969994d8fa35e5ed5628b4eec0dc9f3f3dc68debf03495aa01548"},
		{some(), counted(0xc0), "a135ad03a282c053a24c1ca21aa3c2570e12899ff8db3fb30ca6adc1693455d3"},
		{api.Vers{Client: -1, N: math.MaxInt64, Count: math.MinInt64, Prev: full(), Epoch: -64, Vec: [4]int64{64, -65, math.MinInt64, math.MaxInt64}}, api.Hash{},
			"e3b97964bf334ccab71c008f2cb544c59c0a5a11f607ff0ee39b9337e2098da3"},
	} {
		w := vers.Sign(x, c.key, c.v)
		if got := hex.EncodeToString(w.Tag[:]); got != c.want {
			t.Errorf("P14.1: Sign of %v: Tag %s, want %s", c.v, got, c.want)
		}
		checkIs(t, "written out", x, c.key, w, true)
	}
}

// TestTagAheadTellsNothing signs the same structure under several Tags, its own among them.
func TestTagAheadTellsNothing(t *testing.T) {
	for mode, x := range boxes() {
		for _, v := range structures() {
			signed := vers.Sign(x, someKey(), v)
			for _, tag := range []api.Hash{{}, full(), counted(3), signed.Tag} {
				v.Tag = tag
				if got := vers.Sign(x, someKey(), v); got != signed {
					t.Errorf("P14.1: %s: Sign of %v: %v, want %v", mode, v, got, signed)
				}
			}
		}
	}
}

// TestOnlyWhatWasSigned turns each bit of each part, and the key.
func TestOnlyWhatWasSigned(t *testing.T) {
	for mode, x := range boxes() {
		for _, v := range structures() {
			signed := vers.Sign(x, someKey(), v)
			eachTurned(signed, func(name string, turned api.Vers) {
				checkIs(t, mode+", "+name+" turned", x, someKey(), turned, false)
			})
			for bit := range 256 {
				key := someKey()
				key[bit/8] ^= 1 << (bit % 8)
				checkIs(t, mode+", a bit of the key turned", x, key, signed, false)
			}
			checkIs(t, mode+", as it was", x, someKey(), signed, true)
		}
	}
}

// TestNotAnothersTag hands the Tag of one structure to each of the others, all of which are signed.
func TestNotAnothersTag(t *testing.T) {
	for mode, x := range boxes() {
		var signed []api.Vers
		for _, v := range structures() {
			// These two differ in Tag alone.
			if v != (api.Vers{Tag: v.Tag}) || v == (api.Vers{}) {
				signed = append(signed, vers.Sign(x, someKey(), v))
			}
		}
		for i, v := range signed {
			for k, w := range signed {
				v.Tag = w.Tag
				checkIs(t, mode+", another's Tag", x, someKey(), v, i == k)
			}
		}
		for _, v := range signed {
			w := vers.Sign(x, counted(0x11), v)
			checkIs(t, mode+", signed by another key", x, someKey(), w, false)
			checkIs(t, mode+", signed by this key", x, someKey(), v, true)
		}
	}
}

// TestUnsigned asks for structures that nobody signed: an ideal box's book holds nothing of them.
func TestUnsigned(t *testing.T) {
	for mode, x := range boxes() {
		for range 2 {
			for _, v := range structures() {
				for _, tag := range []api.Hash{{}, full(), vers.Hash(v), v.Tag} {
					v.Tag = tag
					checkIs(t, mode+", unsigned", x, someKey(), v, false)
				}
			}
		}
	}
}

// TestAnotherBox holds that an ideal box knows what it marked itself, and a real one what any of its kind did.
func TestAnotherBox(t *testing.T) {
	v := some()
	checkIs(t, "another real box", box.New(api.Real, nil), someKey(), vers.Sign(box.New(api.Real, nil), someKey(), v), true)
	checkIs(t, "another ideal box", box.New(api.Ideal, tape.New(1)), someKey(), vers.Sign(box.New(api.Ideal, tape.New(1)), someKey(), v), false)
	checkIs(t, "real, of an ideal one", box.New(api.Real, nil), someKey(), vers.Sign(box.New(api.Ideal, tape.New(1)), someKey(), v), false)
	checkIs(t, "ideal, of a real one", box.New(api.Ideal, tape.New(1)), someKey(), vers.Sign(box.New(api.Real, nil), someKey(), v), false)
}

// TestTape holds that Sign takes one mark of an ideal box's tape the first time, and none again; and that the others take nothing.
func TestTape(t *testing.T) {
	x, want := box.New(api.Ideal, tape.New(6)), tape.New(6)
	for _, v := range []api.Vers{{}, some(), least(), most()} {
		checkIs(t, "ahead of the first Sign", x, someKey(), v, false)
		tag := api.Hash(want.Next(32))
		for range 3 {
			signed := vers.Sign(x, someKey(), v)
			if signed.Tag != tag {
				t.Errorf("P14.1: Sign of %v: Tag %x, want %x of the tape", v, signed.Tag, tag)
			}
			checkIs(t, "ideal", x, someKey(), signed, true)
			checkIs(t, "ideal, another key", x, api.Hash{}, signed, false)
		}
	}
	if got := x.Mark(api.Hash{}, nil); !bytes.Equal(got[:], want.Next(32)) {
		t.Error("P14.1: Sign or Is took more of the tape than marks")
	}
}

func TestNilBox(t *testing.T) {
	for _, v := range structures() {
		want := v
		want.Tag = api.Hash{}
		if got := vers.Sign(nil, someKey(), v); got != want {
			t.Errorf("P14.1: Sign by a nil Box: %v, want %v", got, want)
		}
		checkIs(t, "a nil Box", nil, someKey(), v, false)
		checkIs(t, "a nil Box, no Tag", nil, someKey(), want, false)
		checkIs(t, "a nil Box, of a real one", nil, someKey(), vers.Sign(box.New(api.Real, nil), someKey(), v), false)
	}
}
