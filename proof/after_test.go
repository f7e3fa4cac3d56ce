package proof_test

import (
	"fmt"
	"testing"

	"indenture/api"
	"indenture/proof"
	"indenture/tree"
)

// wantAfter holds After against a root that is known.
func wantAfter(t testing.TB, what string, root, label, sum api.Hash, p api.Proof, want api.Hash) {
	t.Helper()
	if got, ok := proof.After(root, label, sum, p); got != want || !ok {
		t.Errorf("P13.1: %s: After of %x, %x: %x, %v, want %x, true\n%s", what, label, sum, got, ok, want, show(p))
	}
}

// afterPut holds After against the tree itself, behind a Put into a copy.
func afterPut(t testing.TB, what string, x *tree.Tree, label, sum api.Hash) {
	t.Helper()
	c := x.Copy()
	c.Put(label, sum)
	wantAfter(t, what, x.Root(), label, sum, x.Prove(label), c.Root())
}

func TestAfterAPut(t *testing.T) {
	for _, f := range families() {
		x := treeOf(f.l)
		for i, label := range asked(f.l) {
			for _, sum := range []api.Hash{{}, sumOf(i), label} {
				afterPut(t, f.name, x, label, sum)
			}
			if sum, has := x.Get(label); has {
				wantAfter(t, f.name+", the same sum", x.Root(), label, sum, x.Prove(label), x.Root())
			}
		}
	}
}

// TestAfterTwoThatPart has a way that ends at another label with each number of Sides, and one that parts from that label at the next bit, some bits on, and at the last one.
func TestAfterTwoThatPart(t *testing.T) {
	long(t)
	for n := range 256 {
		a := pair{counted(byte(n)), sumOf(n)}
		x := treeOf([]pair{a})
		if n > 0 {
			x.Put(turned(a.label, n-1), sumOf(1))
		}
		for _, k := range []int{n, n + 1, n + 7, n + 40, 255} {
			if k < n || k > 255 {
				continue
			}
			label := turned(a.label, k)
			what := fmt.Sprintf("%d Sides, two that part at the bit %d", n, k)
			p := x.Prove(label)
			if len(p.Sides) != n || p.Label != a.label {
				t.Fatalf("P12.1: %s: %s", what, show(p))
			}
			afterPut(t, what, x, label, sumOf(k))
			// Bits behind the one where they part count for nothing.
			far := label
			for d := k + 1; d < 256; d += 3 {
				far = turned(far, d)
			}
			afterPut(t, what+", and behind it too", x, far, sumOf(k))
		}
	}
}

// TestAfterNothing has ways that end at none: of the tree of none, and behind each bit at which two go on together.
func TestAfterNothing(t *testing.T) {
	afterPut(t, "none", tree.New(), counted(1), counted(2))
	wantAfter(t, "none", api.Hash{}, counted(1), counted(2), api.Proof{}, leafOf(counted(1), counted(2)))
	a := counted(0x21)
	x := treeOf([]pair{{a, counted(1)}, {turned(a, 255), counted(2)}})
	for d := range 255 {
		label := turned(a, d)
		if p := x.Prove(label); p.Has || len(p.Sides) != d+1 {
			t.Fatalf("P12.1: a way that leaves two at the bit %d: %s", d, show(p))
		}
		afterPut(t, fmt.Sprintf("a way that leaves two at the bit %d", d), x, label, sumOf(d))
	}
}

// TestByAfterAlone takes a root on Put by Put; the tree is asked for its proofs only.
func TestByAfterAlone(t *testing.T) {
	long(t)
	for _, f := range families() {
		x, root := tree.New(), api.Hash{}
		take := func(p pair) {
			t.Helper()
			after, ok := proof.After(root, p.label, p.sum, x.Prove(p.label))
			x.Put(p.label, p.sum)
			if after != x.Root() || !ok {
				t.Fatalf("P13.1: %s: After of the Put of %x: %x, %v, want %x", f.name, p.label, after, ok, x.Root())
			}
			root = after
		}
		for i, p := range f.l {
			take(p)
			take(pair{f.l[i/2].label, sumOf(i)})
			take(pair{turned(p.label, 255-i), sumOf(i)})
		}
		for i := len(f.l) - 1; i >= 0; i-- {
			take(f.l[i])
			take(f.l[i])
		}
	}
}

// TestByAfterAloneWrittenOut has roots that another program made.
func TestByAfterAloneWrittenOut(t *testing.T) {
	var sums, near []pair
	for i := range 8 {
		sums = append(sums, pair{sumOfByte(i), counted(byte(i))})
	}
	near = append(near, pair{counted(0), counted(0x80)})
	for _, d := range []int{0, 7, 8, 255, 254, 100} {
		near = append(near, pair{turned(counted(0), d), counted(0x80)})
	}
	for _, c := range []struct {
		name  string
		l     []pair
		roots []string
	}{
		{"sums", sums, []string{
			"22b2f875d8f3674d079cfb4dabb687a699af9bb8bbf91299aaaeceafe17327f4",
			"108b821dd26cc86049984f3ba4c8dae04c68fd3eb9c42272e235aafc9b15a590",
			"8952de7193f4cbe3a998ea85ff5b9eae700fe85537ff2e8d5e312ec197333d6a",
			"fb5b060f423bc474dc7f601330a34df6846084469acefb099656e131ff5c6fe8",
			"83e74215bbd5c39b1f07e4d26f8078ce2abd3a39073ae1ed72a1399576fca640",
			"22678e2b9edfe1d3a4c2f0a3b17d600223190ad8febd5bc655bed1f0e06154ef",
			"b7f8bc4983a79695ffa4e3aeb3702fecd1ce8fdfe7ba23d7764571242568328e",
			"fc633e9a39cccb1d8c9d667a71dd97a5f61553e4f3644f7fa9f97bef7d0651ee",
		}},
		{"labels near one another", near, []string{
			"c842ae08feb7ee728cb523ed26da342ac1602f000a10ed3243f1d00ec57d7661",
			"15eacfd8f56b10086ef60fb096c0b2b22fa7121f0a802a9ba9825c415d4ba4ad",
			"61d6fedfefe1e94eab792c609703bdaee2cdcc4d277e52876c60c3d8a1d9da0b",
			"f2696987ee3b9734dfa3079cf532fea5dc855b426d412030c5634d7368589643",
			"65a52844ca4d36cd029902d1569d5912f66bd97618e55d6c72b29aecc51521d4",
			"b5a06db1971e6e969af30b8726444e75aea541dedfe6fcf356f1aa5ae049f270",
			"85f66773052d4dc6f86bfa50c290a7c74c01b6adb10ad9a80ee01ed05de64128",
		}},
	} {
		x, root := tree.New(), api.Hash{}
		for i, p := range c.l {
			want := hashOf(t, c.roots[i])
			wantAfter(t, fmt.Sprintf("%s, the Put %d", c.name, i), root, p.label, p.sum, x.Prove(p.label), want)
			x.Put(p.label, p.sum)
			root = want
		}
	}
}

// TestAfterIsProved: what a proof told, and the label's new sum, are themselves a proof under the root that After told.
func TestAfterIsProved(t *testing.T) {
	for _, f := range families() {
		x := treeOf(f.l)
		for i, label := range asked(f.l) {
			p := x.Prove(label)
			after, _ := proof.After(x.Root(), label, sumOf(i), p)
			if p.Has && p.Label != label {
				none(t, f.name+", the proof from ahead of the Put", after, label, p)
				continue
			}
			p.Has, p.Label, p.Sum = true, label, sumOf(i)
			holds(t, f.name+", behind a Put", after, label, p, sumOf(i), true)
		}
	}
}

// TestAnOldProof is none any more once another label was put.
func TestAnOldProof(t *testing.T) {
	for _, f := range families() {
		x := treeOf(f.l)
		for i, label := range asked(f.l) {
			p := x.Prove(label)
			c := x.Copy()
			c.Put(sumOf(7000+i), sumOf(1))
			none(t, f.name+", an old proof", c.Root(), label, p)
			sum, has := c.Get(label)
			holds(t, f.name+", a new proof", c.Root(), label, c.Prove(label), sum, has)
		}
	}
}
