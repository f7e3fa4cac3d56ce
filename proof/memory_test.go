package proof_test

import (
	"slices"
	"sync"
	"testing"

	"indenture/api"
	"indenture/proof"
	"indenture/tree"
)

// roomy is p with spare room behind its Sides, all of it written on, and all of that memory.
func roomy(p api.Proof, spare int) (api.Proof, []api.Hash) {
	all := slices.Clone(p.Sides)
	for i := range spare {
		all = append(all, sumOf(i))
	}
	p.Sides = all[:len(p.Sides)]
	return p, all
}

func TestHandedInStays(t *testing.T) {
	long(t)
	for _, f := range families() {
		x := treeOf(f.l)
		for _, label := range asked(f.l) {
			sum, has := x.Get(label)
			for _, spare := range []int{1, 300} {
				p, all := roomy(x.Prove(label), spare)
				before, was := slices.Clone(all), p
				holds(t, "P0.3: "+f.name+", spare room", x.Root(), label, p, sum, has)
				none(t, "P0.3: "+f.name+", spare room", turned(x.Root(), 3), label, p)
				afterPut(t, "P0.3: "+f.name, x, label, sumOf(1))
				if !slices.Equal(all, before) {
					t.Errorf("P0.3: %s: the Sides or their spare room were changed: %x", f.name, label)
				}
				if len(p.Sides) != len(was.Sides) || p.Has != was.Has || p.Label != was.Label || p.Sum != was.Sum {
					t.Errorf("P0.3: %s: the proof was changed: %x", f.name, label)
				}
			}
		}
	}
}

// TestNothingIsKept writes into the Sides between the calls: each speaks of what it is handed.
func TestNothingIsKept(t *testing.T) {
	var l []pair
	for i := range 60 {
		l = append(l, pair{sumOf(i), sumOf(i + 1)})
	}
	x := treeOf(l)
	for _, label := range append(asked(nil), l[0].label, l[30].label) {
		p := x.Prove(label)
		sum, has := x.Get(label)
		for range 3 {
			holds(t, "P0.5: as it was", x.Root(), label, p, sum, has)
			for i := range p.Sides {
				early, _ := proof.After(x.Root(), label, sumOf(1), p)
				kept := early
				p.Sides[i][i] ^= 1
				none(t, "P0.5: turned", x.Root(), label, p)
				holds(t, "P0.5: turned, under its own root", rootOf(label, p), label, p, sum, has)
				p.Sides[i][i] ^= 1
				if early != kept {
					t.Errorf("P0.3: an answer of After was changed")
				}
			}
		}
	}
}

func TestNilAndEmptySides(t *testing.T) {
	label := counted(1)
	for _, sides := range [][]api.Hash{nil, {}, make([]api.Hash, 0, 5)} {
		holds(t, "P0.4: none", api.Hash{}, label, api.Proof{Sides: sides}, api.Hash{}, false)
		p := api.Proof{Sides: sides, Has: true, Label: turned(label, 9), Sum: counted(3)}
		holds(t, "P0.4: another", tree.Leaf(p.Label, p.Sum), label, p, api.Hash{}, false)
		none(t, "P0.4: another, of noughts", api.Hash{}, label, p)
		p.Label = label
		holds(t, "P0.4: itself", tree.Leaf(p.Label, p.Sum), label, p, p.Sum, true)
	}
}

// TestSideBySide has many ask about one proof at once.
func TestSideBySide(t *testing.T) {
	for _, f := range families() {
		x := treeOf(f.l)
		label := turned(counted(0x5a), 250)
		p := x.Prove(label)
		sum, has := x.Get(label)
		var done sync.WaitGroup
		for range 4 {
			done.Go(func() {
				for range 3 {
					holds(t, f.name+", side by side", x.Root(), label, p, sum, has)
				}
			})
		}
		done.Wait()
	}
}

// FuzzProof puts some labels by two bytes each, and turns one part of a proof: a byte for which, a byte for where, a byte for what.
func FuzzProof(f *testing.F) {
	f.Add([]byte{}, uint8(0), uint8(0), uint8(0))
	f.Add([]byte{0, 0, 255, 0, 7, 8}, uint8(0), uint8(255), uint8(1))
	f.Add([]byte("some labels, near one another"), uint8(3), uint8(9), uint8(2))
	f.Fuzz(func(t *testing.T, put []byte, which, where, what uint8) {
		x, label := tree.New(), turned(api.Hash{}, int(where))
		for i := 0; i+1 < len(put) && i < 40; i += 2 {
			x.Put(turned(turned(api.Hash{}, int(put[i])), int(put[i+1])), sumOf(i))
		}
		root, p := x.Root(), x.Prove(label)
		sum, has := x.Get(label)
		holds(t, "fuzzed", root, label, p, sum, has)
		afterPut(t, "fuzzed", x, label, sumOf(int(what)))
		switch which % 8 {
		case 0:
			root = turned(root, int(what))
		case 1:
			label = turned(label, int(what))
		case 2:
			p.Has = !p.Has
		case 3:
			p.Label = turned(p.Label, int(what))
		case 4:
			p.Sum = turned(p.Sum, int(what))
		case 5:
			p.Sides = p.Sides[:min(len(p.Sides), int(what))]
		case 6:
			p.Sides = append(p.Sides, make([]api.Hash, what)...)
		case 7:
			if n := len(p.Sides); n > 0 {
				p.Sides[int(what)%n] = sumOf(int(where))
			}
		}
		byWords(t, "fuzzed, turned", root, label, p)
		byWords(t, "fuzzed, turned and the root with it", rootIf(label, p), label, p)
	})
}

// rootIf is rootOf where there are no more Sides than bits.
func rootIf(label api.Hash, p api.Proof) api.Hash {
	if len(p.Sides) > 256 {
		return api.Hash{}
	}
	return rootOf(label, p)
}
