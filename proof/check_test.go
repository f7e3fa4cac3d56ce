package proof_test

import (
	"fmt"
	"math/rand"
	"slices"
	"testing"

	"indenture/api"
	"indenture/tree"
)

// TestProofsOfTrees holds what the tree's proofs tell against what was put.
func TestProofsOfTrees(t *testing.T) {
	for _, f := range families() {
		x := treeOf(f.l)
		for _, label := range asked(f.l) {
			sum, has := x.Get(label)
			holds(t, f.name, x.Root(), label, x.Prove(label), sum, has)
		}
	}
}

// TestTwoThatPartAtEachBit asks for both, for one that parts behind them from each, and for one that parts ahead of them from both.
func TestTwoThatPartAtEachBit(t *testing.T) {
	long(t)
	for d := range 256 {
		a, b := pair{counted(byte(d)), sumOf(d)}, pair{turned(counted(byte(d)), d), api.Hash{}}
		x := treeOf([]pair{a, b})
		what := fmt.Sprintf("two that part at the bit %d", d)
		for _, p := range []pair{a, b} {
			holds(t, what, x.Root(), p.label, x.Prove(p.label), p.sum, true)
			for _, e := range []int{0, d - 1, d + 1, 255} {
				if e >= 0 && e < 256 && e != d {
					near := turned(p.label, e)
					holds(t, what, x.Root(), near, x.Prove(near), api.Hash{}, false)
				}
			}
		}
	}
}

// TestWaysEndInEachWay makes sure that the families' proofs end in all the ways that there are.
func TestWaysEndInEachWay(t *testing.T) {
	ends := map[string]int{}
	for _, f := range families() {
		x := treeOf(f.l)
		for _, label := range asked(f.l) {
			switch p := x.Prove(label); {
			case !p.Has:
				ends["none"]++
			case p.Label == label:
				ends["itself"]++
			default:
				ends["another"]++
			}
		}
	}
	for _, end := range []string{"none", "itself", "another"} {
		if ends[end] < 50 {
			t.Errorf("P13.1: %d ways end at %s", ends[end], end)
		}
	}
}

func TestAnotherRoot(t *testing.T) {
	long(t)
	for _, f := range families() {
		x := treeOf(f.l)
		root := x.Root()
		more := x.Copy()
		more.Put(sumOf(6000), sumOf(1))
		others := []api.Hash{{}, {1}, same(0xff), more.Root(), tree.Node(root, api.Hash{}), tree.Node(api.Hash{}, root)}
		for i := range 32 {
			others = append(others, turned(root, 8*i+i%8))
		}
		for _, label := range asked(f.l)[:min(len(asked(f.l)), 30)] {
			p := x.Prove(label)
			for _, other := range append(slices.Clone(others), endOf(p), leafOf(label, p.Sum)) {
				if other != root {
					none(t, f.name+", another root", other, label, p)
				}
			}
		}
	}
}

// TestAnotherLabelIsAsked: where it leaves the way, the proof is none; where it shares it, the way ends as it did.
func TestAnotherLabelIsAsked(t *testing.T) {
	long(t)
	for _, f := range families() {
		x := treeOf(f.l)
		for i, label := range asked(f.l) {
			if i%8 != 0 {
				continue
			}
			p := x.Prove(label)
			// Long ways take long: of these not each bit is turned.
			for d := i % 7; d < 256; d += 1 + len(p.Sides)/8 {
				other := turned(label, d)
				switch {
				case d < len(p.Sides):
					none(t, f.name+", another label", x.Root(), other, p)
				case p.Has && other == p.Label:
					holds(t, f.name+", another label", x.Root(), other, p, p.Sum, true)
				default:
					holds(t, f.name+", another label", x.Root(), other, p, api.Hash{}, false)
				}
			}
		}
	}
}

// cut is sides with those from i to k, exclusive, taken out and some put in their place.
func cut(sides []api.Hash, i, k int, some ...api.Hash) []api.Hash {
	return slices.Concat(sides[:i], some, sides[k:])
}

func TestTurnedSides(t *testing.T) {
	long(t)
	for _, f := range families() {
		x := treeOf(f.l)
		for i, label := range asked(f.l) {
			p := x.Prove(label)
			n := len(p.Sides)
			no := func(what string, sides []api.Hash) {
				t.Helper()
				q := p
				q.Sides = sides
				none(t, f.name+", "+what, x.Root(), label, q)
			}
			for k := i % (1 + n/4); k < n; k += 1 + n/4 {
				side := p.Sides[k]
				no("a Side with a bit turned", cut(p.Sides, k, k+1, turned(side, (37*k+i)%256)))
				no("another Side", cut(p.Sides, k, k+1, sumOf(k)))
				no("one too few", cut(p.Sides, k, k+1))
				no("all too few from here on", cut(p.Sides, k, n))
				no("one too many", cut(p.Sides, k, k, api.Hash{}))
				no("one twice", cut(p.Sides, k, k, side))
				if last := p.Sides[n-1]; last != side {
					no("two that changed places", cut(cut(p.Sides, n-1, n, side), k, k+1, last))
				}
				if k+1 < n && p.Sides[k+1] != side {
					no("two neighbours that changed places", cut(p.Sides, k, k+2, p.Sides[k+1], side))
				}
			}
			for _, side := range []api.Hash{{}, same(0xff), x.Root(), endOf(p)} {
				no("one too many, ahead", cut(p.Sides, 0, 0, side))
				no("one too many, at the end", cut(p.Sides, n, n, side))
			}
		}
	}
}

func TestTurnedEnds(t *testing.T) {
	long(t)
	for _, f := range families() {
		x := treeOf(f.l)
		for i, label := range asked(f.l) {
			p := x.Prove(label)
			no := func(what string, has bool, end, sum api.Hash) {
				t.Helper()
				q := api.Proof{Sides: p.Sides, Has: has, Label: end, Sum: sum}
				none(t, f.name+", "+what, x.Root(), label, q)
			}
			no("Has turned", !p.Has, p.Label, p.Sum)
			no("Has turned, the end of noughts", !p.Has, api.Hash{}, api.Hash{})
			no("Has turned, the end of label", !p.Has, label, api.Hash{1})
			for d := i % 23; d < 256; d += 23 {
				no("Label turned", p.Has, turned(p.Label, d), p.Sum)
				no("Sum turned", p.Has, p.Label, turned(p.Sum, d))
			}
			if p.Label != p.Sum {
				no("Label and Sum that changed places", p.Has, p.Sum, p.Label)
			}
			if p.Label != label {
				no("label's own end", true, label, p.Sum)
			}
		}
	}
}

// sidesOf are n sides, noughts and twins among them.
func sidesOf(n int) []api.Hash {
	sides := make([]api.Hash, n)
	for i := range sides {
		if i%3 != 0 {
			sides[i] = sumOf(i % 7)
		}
	}
	return sides
}

// TestLabelItself has proofs that no tree told, with each number of Sides.
func TestLabelItself(t *testing.T) {
	long(t)
	for n := range 257 {
		label := sumOf(n)
		for _, sum := range []api.Hash{{}, sumOf(n + 1), label} {
			p := api.Proof{Sides: sidesOf(n), Has: true, Label: label, Sum: sum}
			what := fmt.Sprintf("label itself, %d Sides", n)
			holds(t, what, rootOf(label, p), label, p, sum, true)
			none(t, what, turned(rootOf(label, p), n%256), label, p)
		}
	}
}

func TestNothingAtTheEnd(t *testing.T) {
	for n := range 257 {
		label := sumOf(n)
		p := api.Proof{Sides: sidesOf(n)}
		root := rootOf(label, p)
		holds(t, fmt.Sprintf("nothing, %d Sides", n), root, label, p, api.Hash{}, false)
		for _, end := range []pair{
			{turned(api.Hash{}, n%256), api.Hash{}}, {api.Hash{}, turned(api.Hash{}, n%256)},
			{label, api.Hash{}}, {api.Hash{}, label}, {label, sumOf(n + 1)}, {label, label},
		} {
			q := p
			q.Label, q.Sum = end.label, end.sum
			what := fmt.Sprintf("nothing with a Label or a Sum, %d Sides", n)
			none(t, what, root, label, q)
			none(t, what+", under their Leaf's root", built(wayOf(label), q.Sides, leafOf(end.label, end.sum)), label, q)
		}
	}
}

// TestAnotherLabelAtTheEnd has one that parts from label at each bit about the last one of the way.
func TestAnotherLabelAtTheEnd(t *testing.T) {
	long(t)
	for n := range 257 {
		label := sumOf(n)
		for _, k := range []int{0, n / 2, n - 8, n - 2, n - 1, n, n + 1, n + 8, 255} {
			if k < 0 || k > 255 {
				continue
			}
			p := api.Proof{Sides: sidesOf(n), Has: true, Label: turned(label, k), Sum: sumOf(n + 1)}
			what := fmt.Sprintf("another label, that parts at the bit %d of %d Sides", k, n)
			if k >= n {
				holds(t, what, rootOf(label, p), label, p, api.Hash{}, false)
				continue
			}
			none(t, what, rootOf(label, p), label, p)
			none(t, what+", along its own way", rootOf(p.Label, p), label, p)
			// The same end is a proof for the label that stands there.
			holds(t, what+", asked for itself", rootOf(p.Label, p), p.Label, p, p.Sum, true)
		}
	}
}

// TestAnotherLabelThatSharesLateBits: they count for nothing, only the first ones do.
func TestAnotherLabelThatSharesLateBits(t *testing.T) {
	label := counted(0x11)
	for n := 1; n <= 256; n++ {
		for _, other := range []api.Hash{turned(label, n-1), turned(turned(label, 0), n/2), turned(same(0xee), n-1), {}} {
			p := api.Proof{Sides: sidesOf(n), Has: true, Label: other, Sum: counted(1)}
			byWords(t, fmt.Sprintf("another label of late bits, %d Sides", n), rootOf(label, p), label, p)
		}
	}
}

func TestNoSides(t *testing.T) {
	for _, label := range []api.Hash{{}, same(0xff), counted(1), {31: 1}, {0x80}} {
		holds(t, "no Sides, nothing", api.Hash{}, label, api.Proof{}, api.Hash{}, false)
		for _, root := range []api.Hash{{1}, {31: 1}, same(0xff), tree.Leaf(label, api.Hash{}), tree.Leaf(api.Hash{}, api.Hash{}), tree.Node(api.Hash{}, api.Hash{})} {
			none(t, "no Sides, nothing, another root", root, label, api.Proof{})
		}
		for _, end := range []pair{{}, {label, api.Hash{}}, {label, counted(9)}, {turned(label, 0), counted(9)}, {turned(label, 255), counted(9)}, {same(0x3c), same(0xff)}} {
			p := api.Proof{Has: true, Label: end.label, Sum: end.sum}
			sum := end.sum
			if end.label != label {
				sum = api.Hash{}
			}
			root := leafOf(end.label, end.sum)
			holds(t, "no Sides, an end", root, label, p, sum, end.label == label)
			none(t, "no Sides, an end, the root of all noughts", api.Hash{}, label, p)
			none(t, "no Sides, an end, another root", turned(root, 100), label, p)
			none(t, "no Sides, an end, another sum's root", leafOf(end.label, turned(end.sum, 5)), label, p)
			none(t, "no Sides, an end, a Node's root", tree.Node(end.label, end.sum), label, p)
		}
	}
}

// TestOf256Sides has the two that part at the last bit, and proofs that end behind all the bits.
func TestOf256Sides(t *testing.T) {
	a, b := pair{counted(9), counted(1)}, pair{turned(counted(9), 255), counted(2)}
	x := treeOf([]pair{a, b})
	for _, p := range []pair{a, b} {
		q := x.Prove(p.label)
		if len(q.Sides) != 256 {
			t.Fatalf("P12.1: %d Sides of two that part at the last bit", len(q.Sides))
		}
		holds(t, "256 Sides", x.Root(), p.label, q, p.sum, true)
		for _, side := range []api.Hash{{}, same(0xff), x.Root(), endOf(q)} {
			tooMany(t, x.Root(), p.label, cut(q.Sides, 256, 256, side), q)
			tooMany(t, x.Root(), p.label, cut(q.Sides, 0, 0, side), q)
		}
	}
	for _, n := range []int{257, 258, 264, 300, 512, 1000, 100000} {
		label := counted(byte(n))
		for _, p := range []api.Proof{{}, {Has: true, Label: label, Sum: counted(1)}, {Has: true, Label: counted(2), Sum: counted(1)}} {
			tooMany(t, rootOf(label, p), label, sidesOf(n), p)
			tooMany(t, api.Hash{}, label, make([]api.Hash, n), p)
		}
	}
}

// tooMany is that sides are no proof under whatever root a label of more bits would have.
func tooMany(t *testing.T, root, label api.Hash, sides []api.Hash, p api.Proof) {
	t.Helper()
	p.Sides = sides
	what := fmt.Sprintf("%d Sides", len(sides))
	none(t, what, root, label, p)
	if len(sides) > 300 {
		return
	}
	more := "0101010101010101010101010101010101010101010101010101010101010101"
	for _, way := range []string{wayOf(label) + more, wayOf(label) + more[1:], more[:len(sides)-256] + wayOf(label), wayOf(label) + wayOf(label)} {
		none(t, what+", a root that they lead to", built(way, sides, endOf(p)), label, p)
	}
	none(t, what+", the root of the first 256", built(wayOf(label), sides[:256], endOf(p)), label, p)
	none(t, what+", the root of the last 256", built(wayOf(label), sides[len(sides)-256:], endOf(p)), label, p)
}

// TestProofsThatNoTreeTold builds them up at random, and turns a part.
func TestProofsThatNoTreeTold(t *testing.T) {
	proofs := 0
	for seed := range int64(1500) {
		r := rand.New(rand.NewSource(seed))
		label := sumOf(r.Intn(1000))
		p := api.Proof{Sides: sidesOf(r.Intn(40))}
		if r.Intn(3) > 0 {
			p.Has, p.Label, p.Sum = true, label, sumOf(r.Intn(9))
			if r.Intn(2) > 0 {
				p.Label = turned(label, r.Intn(60))
			}
		}
		root := rootOf(label, p)
		if byWords(t, "built up", root, label, p) {
			proofs++
		}
		switch r.Intn(5) {
		case 0:
			root = turned(root, r.Intn(256))
		case 1:
			label = turned(label, r.Intn(60))
		case 2:
			p.Has = !p.Has
		case 3:
			p.Label = turned(p.Label, r.Intn(60))
		case 4:
			p.Sides = append(p.Sides, sumOf(1))
		}
		byWords(t, "built up, one part turned", root, label, p)
		byWords(t, "built up, one part turned and the root with it", rootOf(label, p), label, p)
	}
	if proofs < 500 {
		t.Errorf("P13.1: only %d that were built up are proofs", proofs)
	}
}

// TestNothingButSidesOfNoughts: no tree has two sides of noughts side by side, but the words take them.
func TestNothingButSidesOfNoughts(t *testing.T) {
	long(t)
	for n := range 257 {
		label := counted(byte(n))
		for _, p := range []api.Proof{
			{Sides: make([]api.Hash, n)},
			{Sides: make([]api.Hash, n), Has: true, Label: label, Sum: counted(1)},
			{Sides: make([]api.Hash, n), Has: true, Label: turned(label, 255), Sum: counted(1)},
		} {
			if ok := byWords(t, "Sides of noughts", rootOf(label, p), label, p); ok != (n < 256 || p.Label != turned(label, 255)) {
				t.Errorf("P13.1: %d Sides of noughts: %v", n, ok)
			}
			if n > 0 {
				none(t, "Sides of noughts under noughts", api.Hash{}, label, p)
			}
		}
	}
}

func TestWrittenOut(t *testing.T) {
	label, sides := counted(0x30), []api.Hash{same(0xaa), counted(3), {}, counted(0x55), same(0xff)}
	for _, c := range []struct {
		p           api.Proof
		root, after string
	}{
		{api.Proof{}, "930158b56332dddcb79b5a3ddee7d2cb954bc19d55c1e7546f4d97d459c135cf", "14c3aa6f007da674b79c350a8adbb9bf83fcc4d60a283e79c997c409aa13c25e"},
		{api.Proof{Has: true, Label: label}, "534788541139216ba03187ca4ecbb1677248c73a0b8ce4dee016b2e898d7583f", "14c3aa6f007da674b79c350a8adbb9bf83fcc4d60a283e79c997c409aa13c25e"},
		{api.Proof{Has: true, Label: turned(label, 5)}, "fe9002193fe0b2e089ff07e3b4c4cea648d46cb25cb43be9ce4873a2021940fd", "759d4e1ddd4e3c1ff0996f6193863280dfa8aae552153d93b406b27b3eead369"},
		{api.Proof{Has: true, Label: turned(label, 6)}, "a144a9fa50f6e73a01ce36e812c968f2457849ed8a13bcb1b4c410bc67e8dab8", "54fabf562be62848f285212f5fcd94c06ac4ce8cee1731b900ffcb79d0836c16"},
		{api.Proof{Has: true, Label: turned(label, 8)}, "4fdb60701117b8708cef9ed2337ef11f23a2f696a90beab8ef54987dec0a7331", "7249751b6db55b9ad1f45d4a595a39443c583986ccd7df513b13d7893985c074"},
		{api.Proof{Has: true, Label: turned(label, 17)}, "33b5cda9bc0fcd95b17aca0fb9505586ec8476c13cdd43509b523ae1a0cf458d", "fb43e11c2d420b12f388403a2c307017cb5fe260b7644ef15a74727fc7e6d1ce"},
		{api.Proof{Has: true, Label: turned(label, 100)}, "b7cafab08979d3db6369260c5878b8239495ff219b521d94191c8da2beea5fcb", "5dd593629bbed3d622c3194576b71f8bc5d97dbe673dd6e2802663599ae5fde1"},
		{api.Proof{Has: true, Label: turned(label, 255)}, "770854dd86dfc57371f70f7c50cbd6b8b8e7576f2bbf6d14b32005ef7af55192", "3a75e81292660cb627331bf6845beb90c66e238e27512d7accc148ffcd87c88e"},
	} {
		c.p.Sides = sides
		if c.p.Has {
			c.p.Sum = same(7)
		}
		sum, has := api.Hash{}, c.p.Label == label
		if has {
			sum = same(7)
		}
		root := hashOf(t, c.root)
		holds(t, "written out", root, label, c.p, sum, has)
		wantAfter(t, "written out", root, label, counted(9), c.p, hashOf(t, c.after))
		none(t, "written out, under the root that comes of it", hashOf(t, c.after), label, c.p)
	}
}
