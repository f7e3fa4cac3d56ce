package vers_test

import (
	"bytes"
	"encoding/binary"
	"sync"
	"testing"

	"indenture/api"
	"indenture/box"
	"indenture/tape"
	"indenture/vers"
)

// spoil writes over all of b, its spare room too.
func spoil(b []byte) {
	b = b[:cap(b)]
	for i := range b {
		b[i] ^= 0xff
	}
}

// TestAnswersAreApart writes into what Bytes answered, spare room too.
func TestAnswersAreApart(t *testing.T) {
	for _, v := range structures() {
		early := v
		first, second := vers.Bytes(v), vers.Bytes(v)
		spoil(first)
		if !bytes.Equal(second, wantBytes(v)) {
			t.Errorf("P0.3: an answer shares memory with another one: %v", v)
		}
		spoil(second)
		checkMade(t, "behind a spoilt answer", v)
		if v != early {
			t.Errorf("P0.3: an answer shares memory with what was handed in: %v", early)
		}
	}
}

// TestHandedInStays holds what was handed in to each call, and the answers, against what they were.
func TestHandedInStays(t *testing.T) {
	for mode, x := range boxes() {
		for _, was := range structures() {
			v, key := was, someKey()
			signed := vers.Sign(x, key, v)
			kept := signed
			vers.Is(x, key, v)
			vers.May(v)
			vers.Bytes(v)
			vers.Hash(v)
			next := vers.Next(v, 2)
			early := next
			vers.Follows(v, next)
			vers.Follows(next, v)
			if v != was || key != someKey() || next != early || signed != kept {
				t.Errorf("P0.3: %s: what was handed in was changed: %v, want %v", mode, v, was)
			}
		}
	}
}

// TestNothingIsKept writes into what was handed in and into the answers: each call speaks of what it is handed.
func TestNothingIsKept(t *testing.T) {
	for mode, x := range boxes() {
		v := some()
		signed := vers.Sign(x, someKey(), v)
		next := vers.Next(signed, 3)
		was, wasNext := signed, next
		v.Vec[0], v.Prev[0], v.Root[0], v.Tag[0] = 77, 77, 77, 77
		if signed != was || next != wasNext {
			t.Errorf("P0.3: %s: an answer hangs on what was handed in", mode)
		}
		signed.Vec[2], signed.Prev[1], signed.Tag[1] = 99, 99, 99
		if next != wasNext || vers.Next(was, 3) != wasNext {
			t.Errorf("P0.3: %s: Next hangs on what was handed in", mode)
		}
		next.Vec[0], next.Prev[2] = 55, 55
		checkNext(t, mode, was, 3)
		checkIs(t, mode, x, someKey(), was, true)
		checkIs(t, mode+", written into", x, someKey(), signed, false)
	}
}

// TestOrderOfCallsTellsNothing asks of all, then again in another order with other calls between.
func TestOrderOfCallsTellsNothing(t *testing.T) {
	l := structures()
	var first []api.Hash
	for _, v := range l {
		first = append(first, vers.Hash(v))
	}
	for i := len(l) - 1; i >= 0; i-- {
		vers.Next(l[0], 1)
		vers.Sign(box.New(api.Real, nil), someKey(), l[len(l)-1-i])
		if vers.Hash(l[i]) != first[i] {
			t.Errorf("P0.5: Hash of %v is another the second time", l[i])
		}
		checkMade(t, "again", l[i])
	}
}

// TestSideBySide has many ask about the same at once: nothing is shared but what is read.
func TestSideBySide(t *testing.T) {
	var all sync.WaitGroup
	for i := range 8 {
		all.Go(func() {
			x := box.New(api.Ideal, tape.New(int64(i)))
			for _, v := range structures() {
				checkMade(t, "side by side", v)
				checkNext(t, "side by side", v, i%4+1)
				checkIs(t, "side by side", x, someKey(), vers.Sign(x, someKey(), v), true)
			}
		})
	}
	all.Wait()
}

// read makes a structure of bytes: small numbers of some, large ones of others.
func read(b []byte) api.Vers {
	all := make([]byte, 160)
	copy(all, b)
	next := func() int64 {
		n := int64(binary.LittleEndian.Uint64(all)) >> (all[8] % 64)
		all = all[9:]
		return n
	}
	v := api.Vers{Client: int(next()), N: next(), Count: next(), Epoch: next()}
	for i := range v.Vec {
		v.Vec[i] = next()
	}
	copy(v.Prev[:], all[:29])
	copy(v.Root[:], all[29:58])
	copy(v.Tag[:], all[58:])
	return v
}

// FuzzVers makes the last one and another of bytes, and what follows of the last and a client.
func FuzzVers(f *testing.F) {
	f.Add([]byte{}, []byte{}, 1)
	f.Add(bytes.Repeat([]byte{0xff}, 160), bytes.Repeat([]byte{0x7f}, 160), 4)
	f.Add([]byte("some bytes of which numbers are made"), []byte("and others"), 5)
	f.Fuzz(func(t *testing.T, a, b []byte, client int) {
		last, v := read(a), read(b)
		checkMade(t, "fuzzed", last)
		x := box.New(api.Real, nil)
		signed := vers.Sign(x, last.Prev, v)
		if !vers.Is(x, last.Prev, signed) || vers.Is(x, last.Prev, v) && v != signed {
			t.Errorf("P14.1: Is of %v, or of %v", signed, v)
		}
		next := vers.Next(last, client)
		if client < 1 || client > 4 {
			if next != (api.Vers{}) {
				t.Errorf("P14.2: Next of client %d: %v", client, next)
			}
			return
		}
		checkNext(t, "fuzzed", last, client)
		checkFollows(t, "fuzzed", last, next, hasNext(last, client))
		next.Root, next.Tag = v.Root, v.Tag
		checkFollows(t, "fuzzed, another Root and Tag", last, next, hasNext(last, client))
		checkFollows(t, "fuzzed, another one", last, v, wantFollows(last, v))
	})
}
