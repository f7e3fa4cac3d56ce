package tree_test

import (
	"fmt"
	"slices"
	"testing"

	"indenture/api"
	"indenture/tree"
)

// wantProof is the chapter's words, over a list of labels that is parted by label's bit at each depth.
func wantProof(l []pair, label api.Hash) api.Proof {
	var p api.Proof
	for d := 0; len(l) > 1; d++ {
		mine, others := parted(l, d)
		if isOne(label, d) {
			mine, others = others, mine
		}
		p.Sides = append(p.Sides, wantRoot(others, d+1))
		l = mine
	}
	if len(l) == 1 {
		p.Has, p.Label, p.Sum = true, l[0].label, l[0].sum
	}
	return p
}

func sameProof(p, q api.Proof) bool {
	return slices.Equal(p.Sides, q.Sides) && p.Has == q.Has && p.Label == q.Label && p.Sum == q.Sum
}

func show(p api.Proof) string {
	return fmt.Sprintf("Sides %x, Has %v, Label %x, Sum %x", p.Sides, p.Has, p.Label, p.Sum)
}

// rootOf goes from a proof's end up to the root.
func rootOf(p api.Proof, label api.Hash) api.Hash {
	var h api.Hash
	if p.Has {
		h = wantLeaf(p.Label, p.Sum)
	}
	for d := len(p.Sides) - 1; d >= 0; d-- {
		if isOne(label, d) {
			h = wantNode(p.Sides[d], h)
		} else {
			h = wantNode(h, p.Sides[d])
		}
	}
	return h
}

// checkProof holds Prove of label against l, and against the tree's own root.
func checkProof(t testing.TB, what string, x *tree.Tree, l []pair, label api.Hash) {
	t.Helper()
	got, want := x.Prove(label), wantProof(l, label)
	if !sameProof(got, want) {
		t.Errorf("P12.1: %s: Prove of %x:\n%s\nwant\n%s", what, label, show(got), show(want))
		return
	}
	if h := rootOf(got, label); h != x.Root() {
		t.Errorf("P12.1: %s: Prove of %x leads to the root %x, want %x", what, label, h, x.Root())
	}
}

func TestProveOfNone(t *testing.T) {
	for _, label := range []api.Hash{{}, same(0xff), counted(1), {1}} {
		if p := tree.New().Prove(label); len(p.Sides) != 0 || p.Has || p.Label != (api.Hash{}) || p.Sum != (api.Hash{}) {
			t.Errorf("P12.1: Prove of %x in a tree of none: %s", label, show(p))
		}
	}
}

// TestProveOfOne: whoever is asked for, the way ends at the only one, with no Sides.
func TestProveOfOne(t *testing.T) {
	for _, one := range []pair{{}, {same(0xff), same(0xff)}, {counted(3), counted(4)}, {sumOf(1), api.Hash{}}} {
		x := treeOf([]pair{one})
		labels := []api.Hash{one.label, {}, same(0xff), counted(3), counted(4)}
		for d := range 256 {
			labels = append(labels, turned(one.label, d))
		}
		for _, label := range labels {
			if p := x.Prove(label); len(p.Sides) != 0 || !p.Has || p.Label != one.label || p.Sum != one.sum {
				t.Errorf("P12.1: Prove of %x in a tree of %x alone: %s", label, one.label, show(p))
			}
		}
	}
}

// TestProveOfTwo has two that part at each bit, asked for themselves, for such as part from both ahead of that, and for such as part from one behind it.
func TestProveOfTwo(t *testing.T) {
	for d := range 256 {
		for _, label := range []api.Hash{{}, same(0xff), sumOf(d)} {
			a, b := pair{label, sumOf(1)}, pair{turned(label, d), sumOf(2)}
			x := treeOf([]pair{a, b})
			for _, e := range []int{0, 1, 6, 7, 8, 9, 100, d - 1, d, d + 1, 254, 255} {
				if e < 0 || e > 255 {
					continue
				}
				for _, c := range []struct{ asked, end, other pair }{{a, a, b}, {b, b, a}} {
					if e == d {
						checkTwo(t, x, d, c.asked.label, c.end, c.other)
						continue
					}
					near := turned(c.asked.label, e)
					if e > d {
						checkTwo(t, x, d, near, c.end, c.other)
					} else {
						checkNowhere(t, x, e, near, []pair{a, b})
					}
				}
			}
		}
	}
}

// checkTwo holds that the way ends at the one, and has the other's Leaf at its last side, all noughts at those ahead.
func checkTwo(t *testing.T, x *tree.Tree, d int, label api.Hash, one, other pair) {
	t.Helper()
	p := x.Prove(label)
	want := make([]api.Hash, d+1)
	want[d] = tree.Leaf(other.label, other.sum)
	if !slices.Equal(p.Sides, want) {
		t.Errorf("P12.1: Prove of %x, two that part at the bit %d: the Sides %x, want %x", label, d, p.Sides, want)
	}
	if !p.Has || p.Label != one.label || p.Sum != one.sum {
		t.Errorf("P12.1: Prove of %x, two that part at the bit %d: its end %v, %x, %x, want that of %x", label, d, p.Has, p.Label, p.Sum, one.label)
	}
}

// checkNowhere holds that the way ends at none, with all labels on the other side of its last bit, e.
func checkNowhere(t *testing.T, x *tree.Tree, e int, label api.Hash, l []pair) {
	t.Helper()
	p := x.Prove(label)
	want := make([]api.Hash, e+1)
	want[e] = wantRoot(l, e+1)
	if !slices.Equal(p.Sides, want) {
		t.Errorf("P12.1: Prove of %x, which parts from two at the bit %d: the Sides %x, want %x", label, e, p.Sides, want)
	}
	if p.Has || p.Label != (api.Hash{}) || p.Sum != (api.Hash{}) {
		t.Errorf("P12.1: Prove of %x, which parts from two at the bit %d: its end %v, %x, %x, want none", label, e, p.Has, p.Label, p.Sum)
	}
}

// TestProveWrittenOut has a tree small enough to write down each side.
func TestProveWrittenOut(t *testing.T) {
	a, b, c := api.Hash{0x00}, api.Hash{0x40}, api.Hash{0x60}
	d, e := api.Hash{0x80, 1}, api.Hash{0x80, 1, 1}
	x := treeOf([]pair{{a, sumOf(1)}, {b, sumOf(2)}, {c, sumOf(3)}, {d, sumOf(4)}})
	leafA, leafB := tree.Leaf(a, sumOf(1)), tree.Leaf(b, sumOf(2))
	leafC, leafD := tree.Leaf(c, sumOf(3)), tree.Leaf(d, sumOf(4))
	bc := tree.Node(leafB, leafC)
	abc := tree.Node(leafA, bc)
	if x.Root() != tree.Node(abc, leafD) {
		t.Errorf("P12.1: Root of four: %x", x.Root())
	}
	for _, w := range []struct {
		asked, end api.Hash
		sum        int
		sides      []api.Hash
	}{
		{a, a, 1, []api.Hash{leafD, bc}},
		{api.Hash{0x3f, 5}, a, 1, []api.Hash{leafD, bc}},
		{b, b, 2, []api.Hash{leafD, leafA, leafC}},
		{api.Hash{0x5f}, b, 2, []api.Hash{leafD, leafA, leafC}},
		{c, c, 3, []api.Hash{leafD, leafA, leafB}},
		{api.Hash{0x7f}, c, 3, []api.Hash{leafD, leafA, leafB}},
		{d, d, 4, []api.Hash{abc}},
		{e, d, 4, []api.Hash{abc}},
		{same(0xff), d, 4, []api.Hash{abc}},
	} {
		want := api.Proof{Sides: w.sides, Has: true, Label: w.end, Sum: sumOf(w.sum)}
		if p := x.Prove(w.asked); !sameProof(p, want) {
			t.Errorf("P12.1: Prove of %x of four:\n%s\nwant\n%s", w.asked, show(p), show(want))
		}
	}
	// Where d had been alone there are two now, and who parts from both finds none.
	x.Put(e, sumOf(5))
	if p := x.Prove(same(0xff)); len(p.Sides) != 2 || p.Sides[0] != abc || p.Sides[1] == (api.Hash{}) || p.Has || p.Label != (api.Hash{}) || p.Sum != (api.Hash{}) {
		t.Errorf("P12.1: Prove of all ones of five: %s", show(p))
	}
}

// TestProveOfEachFamily asks for some that are there, and for such as part from them at some bit.
func TestProveOfEachFamily(t *testing.T) {
	for name, l := range families() {
		x := treeOf(l)
		for i := 0; i < len(l); i += 9 {
			checkProof(t, name, x, l, l[i].label)
			checkProof(t, name, x, l, turned(l[i].label, i))
			checkProof(t, name, x, l, turned(l[i].label, 255-i))
			checkProof(t, name, x, l, sumOf(5000+i))
		}
		for d := 0; d < 256 && len(l) > 0; d += 5 {
			checkProof(t, name, x, l, turned(l[0].label, d))
		}
		for _, label := range []api.Hash{{}, same(0xff), same(0x55), same(0xaa), {31: 1}, {0x80}} {
			checkProof(t, name, x, l, label)
		}
		// What was asked turned nothing.
		check(t, name+", asked", x, l)
	}
}

// TestProofsEndInEachWay makes sure that the families' ways end in all the ways that there are.
func TestProofsEndInEachWay(t *testing.T) {
	ends := map[string]int{}
	for _, l := range families() {
		x := treeOf(l)
		for _, p := range l[:min(len(l), 20)] {
			for d := range 256 {
				label := turned(p.label, d)
				q := x.Prove(label)
				switch {
				case !q.Has:
					ends["none"]++
				case q.Label == label:
					ends["itself"]++
				default:
					ends["another"]++
				}
			}
		}
	}
	for _, end := range []string{"none", "itself", "another"} {
		if ends[end] == 0 {
			t.Errorf("P12.1: no way ends at %s", end)
		}
	}
}
