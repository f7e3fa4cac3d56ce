package tree_test

import (
	"math/rand"
	"slices"
	"sync"
	"testing"

	"indenture/api"
	"indenture/tree"
)

// twin is a tree and the list that it is held against.
type twin struct {
	x *tree.Tree
	l []pair
}

func (w *twin) put(t testing.TB, p pair) {
	t.Helper()
	had := find(w.l, p.label) >= 0
	if w.x.Put(p.label, p.sum) == had {
		t.Errorf("P12.1: Put of %x: %v, though it was there: %v", p.label, !had, had)
	}
	w.l = put(w.l, p)
}

func (w *twin) copied() *twin { return &twin{w.x.Copy(), w.l} }

func (w *twin) check(t testing.TB, what string) {
	t.Helper()
	check(t, what, w.x, w.l)
	for _, p := range w.l[:min(len(w.l), 3)] {
		checkProof(t, what, w.x, w.l, p.label)
		checkProof(t, what, w.x, w.l, turned(p.label, 255))
		checkProof(t, what, w.x, w.l, turned(p.label, len(w.l)))
	}
}

// TestCopyOfEachFamily puts new labels, and other sums under labels that are there, into the one, then into the other.
func TestCopyOfEachFamily(t *testing.T) {
	for name, l := range families() {
		first := &twin{treeOf(l), l}
		second := first.copied()
		second.check(t, name+", copied")
		for i := range 2 {
			for _, p := range []pair{{sumOf(7000 + i), sumOf(1)}, {turned(api.Hash{}, 255-i), sumOf(2)}} {
				first.put(t, p)
				second.check(t, name+", the copy behind a Put")
				second.put(t, pair{turned(p.label, 200), sumOf(3)})
				first.check(t, name+", behind a Put to the copy")
			}
			for k := 0; k < len(l); k += 80 {
				first.put(t, pair{l[k].label, sumOf(8000 + i)})
				second.check(t, name+", the copy behind another sum")
				second.put(t, pair{l[k].label, sumOf(9000 + i)})
				first.check(t, name+", behind another sum in the copy")
			}
		}
		second.check(t, name+", the copy at the end")
	}
}

// TestCopyOfNone has trees that both begin with nothing.
func TestCopyOfNone(t *testing.T) {
	first := &twin{tree.New(), nil}
	second, third := first.copied(), first.copied()
	first.put(t, pair{counted(1), counted(2)})
	second.check(t, "a copy of none")
	third.put(t, pair{counted(1), counted(3)})
	third.put(t, pair{counted(4), counted(3)})
	first.check(t, "one, behind its copy's")
	second.check(t, "a copy of none, behind others")
	second.put(t, pair{counted(9), counted(2)})
	for _, w := range []*twin{first, second, third} {
		w.check(t, "of three")
	}
}

// TestNewIsAnother has trees that know nothing of one another.
func TestNewIsAnother(t *testing.T) {
	first, second := &twin{tree.New(), nil}, &twin{tree.New(), nil}
	for i := range 30 {
		first.put(t, pair{sumOf(i), counted(1)})
		second.check(t, "another")
		if i%3 == 0 {
			second.put(t, pair{sumOf(i), counted(2)})
		}
		first.check(t, "behind another")
	}
}

// TestCopiesOfCopies keeps a copy of each time, and writes into all of them behind that.
func TestCopiesOfCopies(t *testing.T) {
	for name, l := range families() {
		w := &twin{tree.New(), nil}
		all := []*twin{w}
		for _, p := range l[:min(len(l), 25)] {
			w = w.copied()
			w.put(t, p)
			all = append(all, w)
		}
		for i, w := range all {
			w.check(t, name+", copies of copies")
			w.put(t, pair{sumOf(i), sumOf(i + 1)})
			w.put(t, pair{turned(sumOf(i), 250), sumOf(i + 1)})
			if len(w.l) > 2 {
				w.put(t, pair{w.l[0].label, sumOf(i)})
			}
		}
		for i := len(all) - 1; i >= 0; i-- {
			all[i].check(t, name+", copies of copies, each with more")
		}
	}
}

// TestInTurns goes at random through trees, copies and copies of copies, with few labels, so that many are put again.
func TestInTurns(t *testing.T) {
	for seed := range int64(5) {
		r := rand.New(rand.NewSource(seed))
		all := []*twin{{tree.New(), nil}}
		for range 100 {
			w := all[r.Intn(len(all))]
			switch {
			case r.Intn(5) == 0 && len(all) < 8:
				all = append(all, w.copied())
			case r.Intn(2) == 0:
				w.put(t, pair{turned(turned(api.Hash{}, r.Intn(12)), 244+r.Intn(12)), sumOf(r.Intn(50))})
			default:
				w.put(t, pair{sumOf(r.Intn(20)), sumOf(r.Intn(50))})
			}
			all[r.Intn(len(all))].check(t, "in turns")
		}
		for _, w := range all {
			w.check(t, "in turns, at the end")
		}
	}
}

// turn changes all of the hashes, those in the spare room too.
func turn(hashes []api.Hash) {
	hashes = hashes[:cap(hashes)]
	for i := range hashes {
		for k := range hashes[i] {
			hashes[i][k] ^= 0xff
		}
	}
}

// TestProofsAreTheCallersOwn writes into all of a proof, its spare room too, and looks at the tree, its copy and other proofs.
func TestProofsAreTheCallersOwn(t *testing.T) {
	for name, l := range families() {
		w := &twin{treeOf(l), l}
		c := w.copied()
		for i := 0; i < len(l); i += 10 {
			label := turned(l[i].label, i)
			early, p, late, other := w.x.Prove(label), w.x.Prove(label), w.x.Prove(label), c.x.Prove(label)
			turn(p.Sides)
			turn(late.Sides)
			p.Label, p.Sum = same(1), same(2)
			want := wantProof(l, label)
			if !sameProof(early, want) || !sameProof(other, want) {
				t.Errorf("P0.3: %s: a proof of %x shares memory with another one", name, label)
			}
			_ = append(early.Sides, same(3))
			checkProof(t, "P0.3: "+name, w.x, l, label)
			checkProof(t, "P0.3: "+name, c.x, l, label)
		}
		w.check(t, "P0.3: "+name+", behind turned proofs")
		c.check(t, "P0.3: "+name+", a copy behind turned proofs")
	}
}

// TestProofsStay holds that a proof speaks of the tree as it was, whatever is put behind it.
func TestProofsStay(t *testing.T) {
	for name, l := range families() {
		x := treeOf(l)
		var told, want []api.Proof
		for i := 0; i < len(l); i += 10 {
			told = append(told, x.Prove(l[i].label))
			want = append(want, wantProof(l, l[i].label))
		}
		for i := range l {
			x.Put(l[i].label, sumOf(i))
			x.Put(turned(l[i].label, 99), sumOf(i))
		}
		for i := range told {
			if !sameProof(told[i], want[i]) {
				t.Errorf("P0.3: %s: the proof %d was changed by what was put behind it", name, i)
			}
		}
	}
}

// TestSpareRoomTellsNothing holds that no more of the tree is told than the Sides.
func TestSpareRoomTellsNothing(t *testing.T) {
	for name, l := range families() {
		x := treeOf(l)
		for _, p := range l {
			sides := x.Prove(p.label).Sides
			spare := sides[len(sides):cap(sides)]
			if slices.ContainsFunc(spare, func(h api.Hash) bool { return h != api.Hash{} }) {
				t.Errorf("P0.3: %s: Prove of %x tells more in its spare room", name, p.label)
			}
		}
	}
}

// TestWhatIsHandedInIsNotKept writes over the hashes behind the call.
func TestWhatIsHandedInIsNotKept(t *testing.T) {
	w := &twin{tree.New(), nil}
	label, sum := counted(1), counted(2)
	for i := range 40 {
		label[i%32] ^= 0x11
		sum[i%32] ^= 0x13
		w.put(t, pair{label, sum})
		before := pair{label, sum}
		told, _ := w.x.Get(label)
		w.x.Prove(label)
		if (before != pair{label, sum}) || told != sum {
			t.Errorf("P0.3: %x, %x was changed", before.label, before.sum)
		}
		told[0] ^= 0xff
	}
	label, sum = api.Hash{}, api.Hash{}
	w.check(t, "P0.3: handed in, written over")
}

func TestNil(t *testing.T) {
	var x *tree.Tree
	for _, label := range []api.Hash{{}, same(0xff), counted(1)} {
		for _, sum := range []api.Hash{{}, counted(2)} {
			if x.Put(label, sum) {
				t.Error("P12.1: nil: Put is true")
			}
		}
		if sum, ok := x.Get(label); sum != (api.Hash{}) || ok {
			t.Errorf("P12.1: nil: Get: %x, %v", sum, ok)
		}
		if p := x.Prove(label); len(p.Sides) != 0 || p.Has || p.Label != (api.Hash{}) || p.Sum != (api.Hash{}) {
			t.Errorf("P12.1: nil: Prove: %s", show(p))
		}
	}
	if x.Len() != 0 || x.Root() != (api.Hash{}) {
		t.Errorf("P12.1: nil: Len %d, Root %x", x.Len(), x.Root())
	}
	if x.Copy() != nil {
		t.Error("P12.1: nil: Copy is not nil")
	}
}

// TestOfNoMaking has a Tree that New did not make: no call of it may panic, and it counts as one of none.
func TestOfNoMaking(t *testing.T) {
	for _, l := range families() {
		w := &twin{new(tree.Tree), nil}
		w.check(t, "of no making")
		checkProof(t, "of no making", w.x, nil, counted(1))
		c := w.copied()
		for _, p := range l[:min(len(l), 20)] {
			w.put(t, p)
		}
		w.check(t, "of no making, with some")
		c.put(t, pair{counted(1), counted(2)})
		c.check(t, "a copy of one of no making")
	}
}

// TestSideBySide has copies of one tree, each in a goroutine of its own.
func TestSideBySide(t *testing.T) {
	l := families()["sums"]
	w := &twin{treeOf(l), l}
	var all []*twin
	for range 8 {
		all = append(all, w.copied())
	}
	var done sync.WaitGroup
	for i, c := range all {
		done.Go(func() {
			for k := range 20 {
				c.put(t, pair{l[k*(i+1)%len(l)].label, sumOf(i)})
				c.put(t, pair{sumOf(300 + i + k), sumOf(k)})
			}
			c.check(t, "side by side")
		})
	}
	done.Wait()
	w.check(t, "behind its copies")
}

// FuzzTree takes three bytes for a step: which tree, and a label by two of them.
func FuzzTree(f *testing.F) {
	f.Add([]byte{})
	f.Add([]byte{0, 0, 0, 0, 0, 255, 1, 0, 0, 2, 0, 0, 1, 255, 255})
	f.Add([]byte("some steps that a tree and its copies go"))
	f.Fuzz(func(t *testing.T, steps []byte) {
		all := []*twin{{tree.New(), nil}}
		for len(steps) >= 3 && len(steps) < 300 {
			w := all[int(steps[0]>>2)%len(all)]
			label := turned(turned(api.Hash{}, int(steps[1])), int(steps[2]))
			switch steps[0] & 3 {
			case 0:
				if len(all) < 5 {
					all = append(all, w.copied())
				}
			case 1:
				w.put(t, pair{label, api.Hash{}})
			case 2:
				w.put(t, pair{label, sumOf(len(steps))})
			default:
				checkProof(t, "any steps", w.x, w.l, label)
			}
			steps = steps[3:]
		}
		for _, w := range all {
			w.check(t, "any steps, at the end")
		}
	})
}
