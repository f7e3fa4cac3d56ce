package tree_test

import (
	"crypto/sha256"
	"encoding/hex"
	"slices"
	"testing"

	"indenture/api"
	"indenture/sha"
	"indenture/tree"
)

// pair is a label and its sum.
type pair struct{ label, sum api.Hash }

// counted is 32 bytes, of which each is one more than the one ahead.
func counted(from byte) api.Hash {
	var h api.Hash
	for i := range h {
		h[i] = from + byte(i)
	}
	return h
}

// same is 32 bytes that are all alike.
func same(c byte) api.Hash {
	var h api.Hash
	for i := range h {
		h[i] = c
	}
	return h
}

// turned is h with one bit turned.
func turned(h api.Hash, d int) api.Hash {
	h[d/8] ^= 0x80 >> (d % 8)
	return h
}

// sumOf is a sum of the library's: a label as good as any.
func sumOf(n int) api.Hash { return sha256.Sum256([]byte{byte(n), byte(n >> 8), byte(n >> 16)}) }

// hashOf is the hash that is written out.
func hashOf(t testing.TB, s string) api.Hash {
	t.Helper()
	b, err := hex.DecodeString(s)
	if err != nil || len(b) != 32 {
		t.Fatalf("not a hash: %s", s)
	}
	return api.Hash(b)
}

// wantLeaf and wantNode are the chapter's words, by the library.
func wantLeaf(label, sum api.Hash) api.Hash {
	return sha256.Sum256(slices.Concat([]byte{0}, label[:], sum[:]))
}

func wantNode(left, right api.Hash) api.Hash {
	return sha256.Sum256(slices.Concat([]byte{1}, left[:], right[:]))
}

// isOne tells of the bit d of label.
func isOne(label api.Hash, d int) bool { return label[d/8]&(0x80>>(d%8)) != 0 }

// parted is l by the bit d of its labels.
func parted(l []pair, d int) (zeros, ones []pair) {
	n := 0
	for _, p := range l {
		if isOne(p.label, d) {
			n++
		}
	}
	// Most ways are long, and few bits on them part anything: no new lists for these.
	switch n {
	case 0:
		return l, nil
	case len(l):
		return nil, l
	}
	for _, p := range l {
		if isOne(p.label, d) {
			ones = append(ones, p)
		} else {
			zeros = append(zeros, p)
		}
	}
	return zeros, ones
}

// wantRoot is the chapter's words, over a list of labels that is parted by a bit at each depth.
func wantRoot(l []pair, d int) api.Hash {
	switch len(l) {
	case 0:
		return api.Hash{}
	case 1:
		return wantLeaf(l[0].label, l[0].sum)
	}
	zeros, ones := parted(l, d)
	return wantNode(wantRoot(zeros, d+1), wantRoot(ones, d+1))
}

// find is where label stands in l, or -1.
func find(l []pair, label api.Hash) int {
	return slices.IndexFunc(l, func(p pair) bool { return p.label == label })
}

// put is l, in new memory, with the pair put.
func put(l []pair, p pair) []pair {
	l = slices.Clone(l)
	if i := find(l, p.label); i >= 0 {
		l[i] = p
		return l
	}
	return append(l, p)
}

// treeOf is a tree into which l was put.
func treeOf(l []pair) *tree.Tree {
	x := tree.New()
	for _, p := range l {
		x.Put(p.label, p.sum)
	}
	return x
}

// check holds all but Prove against l, in which no label stands twice.
func check(t testing.TB, what string, x *tree.Tree, l []pair) {
	t.Helper()
	if x.Len() != len(l) {
		t.Errorf("P12.1: %s: Len: %d, want %d", what, x.Len(), len(l))
	}
	if got, want := x.Root(), wantRoot(l, 0); got != want {
		t.Errorf("P12.1: %s: Root of %d labels: %x, want %x", what, len(l), got, want)
	}
	for _, p := range l {
		if sum, ok := x.Get(p.label); sum != p.sum || !ok {
			t.Errorf("P12.1: %s: Get of %x: %x, %v, want %x, true", what, p.label, sum, ok, p.sum)
		}
	}
}

// checkNot holds that label isn't there.
func checkNot(t testing.TB, what string, x *tree.Tree, label api.Hash) {
	t.Helper()
	if sum, ok := x.Get(label); sum != (api.Hash{}) || ok {
		t.Errorf("P12.1: %s: Get of %x, which is not there: %x, %v", what, label, sum, ok)
	}
}

// families are lists of labels, each list with a likeness of its own: parted early, late, in the midst, and at many depths.
func families() map[string][]pair {
	all := map[string][]pair{"none": nil, "one": {{counted(1), counted(2)}}, "of noughts": {{}}}
	for i := range 150 {
		n := byte(i)
		all["sums"] = append(all["sums"], pair{sumOf(i), counted(n)})
		all["last bytes"] = append(all["last bytes"], pair{api.Hash{31: n}, counted(n)})
		all["first bytes"] = append(all["first bytes"], pair{api.Hash{n}, counted(n)})
		all["second bytes"] = append(all["second bytes"], pair{api.Hash{0xff, n}, counted(n)})
		all["bytes in the midst"] = append(all["bytes in the midst"], pair{api.Hash{15: n}, counted(n)})
	}
	for d := 0; d < 256; d += 3 {
		all["a bit each"] = append(all["a bit each"], pair{turned(api.Hash{}, d), counted(byte(d))})
		all["all but a bit each"] = append(all["all but a bit each"], pair{turned(same(0xff), d), counted(byte(d))})
		all["near a sum"] = append(all["near a sum"], pair{turned(sumOf(0), d), counted(byte(d))})
	}
	for _, d := range []int{0, 1, 7, 8, 9, 127, 128, 254, 255} {
		for i := range 4 {
			all["pairs"] = append(all["pairs"], pair{sumOf(4*d + i), counted(byte(d))}, pair{turned(sumOf(4*d+i), d), counted(byte(i))})
		}
	}
	return all
}

func TestLeafAndNodeWrittenOut(t *testing.T) {
	a, b := counted(0), counted(0x80)
	for _, c := range []struct {
		got  api.Hash
		what string
		want string
	}{
		{tree.Leaf(a, b), "Leaf(a, b)", "c842ae08feb7ee728cb523ed26da342ac1602f000a10ed3243f1d00ec57d7661"},
		{tree.Leaf(b, a), "Leaf(b, a)", "5f2a6ec96b0e12ec68635c490e74e2993d8c562922bbc1e2ac81e2f82d369b92"},
		{tree.Leaf(same(0), same(0)), "Leaf of noughts", "98ce42deef51d40269d542f5314bef2c7468d401ad5d85168bfab4c0108f75f7"},
		{tree.Leaf(same(0xff), same(0)), "Leaf of ones and noughts", "b3091dd7c2caddcfa136392d8b0494a854bbeba7781e392ba96d9d5b32f04256"},
		{tree.Node(a, b), "Node(a, b)", "11d4cede29ca86688c15e8b8a69147c35ad99fa449ad8b6970111e5302bdef40"},
		{tree.Node(b, a), "Node(b, a)", "710b50874746237c9e95aa05859b7c1d99c5d2cac46708f650066f4d9953fe39"},
		{tree.Node(same(0), same(0)), "Node of noughts", "ae0798d0ecaed2b778eddebf18f071a561c53658c05e76cedecc27cafbdbc577"},
		{tree.Node(same(0), same(0xff)), "Node of noughts and ones", "bc6b943b820c449acf880d293c216a24a8066b153f87f2361fae2beda3a72641"},
	} {
		if c.got != hashOf(t, c.want) {
			t.Errorf("P12.1: %s: %x, want %s", c.what, c.got, c.want)
		}
	}
}

// TestLeafAndNode goes two roads: the library's, and sha's with all in one list.
func TestLeafAndNode(t *testing.T) {
	hashes := []api.Hash{{}, {1}, {31: 1}, same(0xff), same(1), counted(0), counted(0x80), sumOf(1)}
	for d := range 256 {
		hashes = append(hashes, turned(counted(7), d))
	}
	for _, a := range hashes {
		for _, b := range hashes {
			both := slices.Concat([]byte{0}, a[:], b[:])
			if got := tree.Leaf(a, b); got != wantLeaf(a, b) || got != sha.Sum(both) {
				t.Fatalf("P12.1: Leaf of %x, %x: %x, want %x", a, b, got, wantLeaf(a, b))
			}
			both[0] = 1
			if got := tree.Node(a, b); got != wantNode(a, b) || got != sha.Sum(both) {
				t.Fatalf("P12.1: Node of %x, %x: %x, want %x", a, b, got, wantNode(a, b))
			}
		}
	}
}

func TestNone(t *testing.T) {
	x := tree.New()
	check(t, "none", x, nil)
	if x.Root() != (api.Hash{}) {
		t.Errorf("P12.1: Root of none: %x", x.Root())
	}
	for _, label := range []api.Hash{{}, {1}, same(0xff), counted(1)} {
		checkNot(t, "none", x, label)
		checkProof(t, "none", x, nil, label)
	}
	// What was asked put nothing.
	check(t, "none, asked", x, nil)
}

func TestOne(t *testing.T) {
	for _, p := range []pair{{}, {api.Hash{}, same(0xff)}, {same(0xff), api.Hash{}}, {counted(3), counted(4)}, {sumOf(1), sumOf(1)}} {
		x := treeOf([]pair{p})
		check(t, "one", x, []pair{p})
		if x.Root() != tree.Leaf(p.label, p.sum) {
			t.Errorf("P12.1: Root of %x alone: %x, want its Leaf", p.label, x.Root())
		}
		for d := range 256 {
			checkNot(t, "one", x, turned(p.label, d))
		}
	}
}

// lifted is what stands at the root where nodes, all noughts beside them, stand between it and the depth d on label's way.
func lifted(h, label api.Hash, d int) api.Hash {
	for d--; d >= 0; d-- {
		if isOne(label, d) {
			h = wantNode(api.Hash{}, h)
		} else {
			h = wantNode(h, api.Hash{})
		}
	}
	return h
}

// TestTwoThatPart goes from the bit where they part up to the root.
func TestTwoThatPart(t *testing.T) {
	for d := range 256 {
		for _, label := range []api.Hash{{}, same(0xff), counted(0), sumOf(d)} {
			zero, one := pair{label, sumOf(7)}, pair{turned(label, d), sumOf(8)}
			if isOne(zero.label, d) {
				zero, one = one, zero
			}
			want := lifted(wantNode(wantLeaf(zero.label, zero.sum), wantLeaf(one.label, one.sum)), label, d)
			for _, l := range [][]pair{{zero, one}, {one, zero}} {
				x := treeOf(l)
				check(t, "two", x, l)
				if x.Root() != want {
					t.Errorf("P12.1: Root of two that part at the bit %d: %x, want %x", d, x.Root(), want)
				}
			}
		}
	}
}

func TestTwoWrittenOut(t *testing.T) {
	for _, c := range []struct {
		d    int
		want string
	}{
		{0, "94aa2f7bf85eed7e8b9626eb03597625ce916c238a7e463fb94c6b54947a2ec0"},
		{7, "e8ddcf8df7cec53a86c64340eff2a0e2950b27481b79a679dc5ddd6df72d2a7f"},
		{8, "0d19a4972d4bf64785340a97d9e403a45b1455e75799379c0bc5635582a3bda8"},
		{255, "daeaf398cac32cb6db1c5ad699a67082dae8983a86d5cc63bb9443812afa0efa"},
	} {
		x := treeOf([]pair{{counted(0), counted(0x80)}, {turned(counted(0), c.d), counted(1)}})
		if x.Root() != hashOf(t, c.want) {
			t.Errorf("P12.1: Root of two that part at the bit %d: %x, want %s", c.d, x.Root(), c.want)
		}
	}
}

func TestManyWrittenOut(t *testing.T) {
	for _, c := range []struct {
		n          int
		sums, last string
	}{
		{2, "108b821dd26cc86049984f3ba4c8dae04c68fd3eb9c42272e235aafc9b15a590", "b633e93f47c4657b3d34f23f9fc1eaf4d9624bc2fdf1bd4899692a31274ff73e"},
		{3, "8952de7193f4cbe3a998ea85ff5b9eae700fe85537ff2e8d5e312ec197333d6a", "e046c8a22e55707c14d8f905ce6c200de001d75a0c74d91d5118eeb19d0b6c59"},
		{10, "2c614ceee990711830fdf6c8149e73f65f6adebe95d8dfcbeb1521a8ca451bf6", "42fa0ec557184808e0ba9212434be8cd087b48aeae216ce69596ea57c54a2fb6"},
		{150, "1ef36eea07876e4247bfdbc114f64c139c209c023337431291d4c87ea594ce57", "6a9ed47b8db66e43d90c53b093a1ccfd447354de3bfe979cbb0b7bd12a918f71"},
		{256, "c24b7df1f5b854e5065d09bedeff550d0b3f51581cb6e490928fe428cd5662ac", "dc45437a5e70c43667fb65677913867f4ae96959bb67ee84bddcf073a5577e35"},
	} {
		sums, last := tree.New(), tree.New()
		for i := range c.n {
			sums.Put(sha.Sum([]byte{byte(i)}), counted(byte(i)))
			last.Put(api.Hash{31: byte(i)}, counted(byte(i)))
		}
		if sums.Root() != hashOf(t, c.sums) {
			t.Errorf("P12.1: Root of %d sums: %x, want %s", c.n, sums.Root(), c.sums)
		}
		if last.Root() != hashOf(t, c.last) {
			t.Errorf("P12.1: Root of %d labels that part in the last byte: %x, want %s", c.n, last.Root(), c.last)
		}
	}
}

// TestEachFamily holds the tree against its list behind each label that is put, and labels that are not there yet.
func TestEachFamily(t *testing.T) {
	for name, family := range families() {
		x := tree.New()
		var l []pair
		for i, p := range family {
			checkNot(t, name, x, p.label)
			if !x.Put(p.label, p.sum) {
				t.Errorf("P12.1: %s: Put of the new label %x: false", name, p.label)
			}
			l = put(l, p)
			if i < 5 || i%20 == 0 {
				check(t, name, x, l)
			}
		}
		check(t, name, x, l)
		for d := range 256 {
			for _, p := range l[:min(len(l), 5)] {
				if near := turned(p.label, d); find(l, near) < 0 {
					checkNot(t, name, x, near)
				}
			}
		}
	}
}

// TestPutAgain holds Put's answers, and that the later sum is the one that all the calls speak of.
func TestPutAgain(t *testing.T) {
	for name, l := range families() {
		x := treeOf(l)
		for i, p := range l {
			p.sum = sumOf(1000 + i)
			for range 2 {
				if x.Put(p.label, p.sum) {
					t.Errorf("P12.1: %s: Put of %x again: true", name, p.label)
				}
			}
			l = put(l, p)
			if i%20 != 0 {
				continue
			}
			check(t, name+", put again", x, l)
			checkProof(t, name+", put again", x, l, p.label)
			checkProof(t, name+", put again", x, l, turned(p.label, i))
		}
		check(t, name+", all put again", x, l)
	}
}

// TestSumOfNoughts holds that a sum of noughts is a sum as any other.
func TestSumOfNoughts(t *testing.T) {
	x := tree.New()
	var l []pair
	for i := range 40 {
		p := pair{sumOf(i % 20), api.Hash{}}
		if x.Put(p.label, p.sum) != (i < 20) {
			t.Errorf("P12.1: Put %d of a sum of noughts", i)
		}
		l = put(l, p)
		check(t, "sums of noughts", x, l)
		checkProof(t, "sums of noughts", x, l, p.label)
	}
}

// orders are ways through n labels that meet each once: onward, backward, from both ends, and by steps that share no part with n.
func orders(n int) [][]int {
	all := make([][]int, 5)
	for i := range n {
		ends := i / 2
		if i%2 == 1 {
			ends = n - 1 - ends
		}
		for k, at := range []int{i, n - 1 - i, ends, i * 7 % n, i * 61 % n} {
			all[k] = append(all[k], at)
		}
	}
	return all
}

func TestOrderTellsNothing(t *testing.T) {
	for name, l := range families() {
		want := treeOf(l).Root()
		for i, order := range orders(len(l)) {
			x := tree.New()
			for _, k := range order {
				x.Put(l[k].label, l[k].sum)
			}
			if x.Root() != want || x.Len() != len(l) {
				t.Errorf("P12.1: %s in the order %d: Root %x, %d labels, want %x, %d", name, i, x.Root(), x.Len(), want, len(l))
			}
		}
	}
}

// TestPutAgainTellsNothing has other sums first, puts the later ones in another order, and asks between.
func TestPutAgainTellsNothing(t *testing.T) {
	for name, l := range families() {
		want := treeOf(l).Root()
		for i, order := range orders(len(l)) {
			x := tree.New()
			for k := range l {
				x.Put(l[k].label, sumOf(k+i))
				x.Root()
			}
			for _, k := range order {
				x.Put(l[k].label, l[k].sum)
				x.Put(l[len(l)-1-k].label, l[len(l)-1-k].sum)
				x.Prove(l[k].label)
			}
			if x.Root() != want || x.Len() != len(l) {
				t.Errorf("P12.1: %s put again in the order %d: Root %x, %d labels, want %x, %d", name, i, x.Root(), x.Len(), want, len(l))
			}
		}
	}
}

// TestSmallOrders goes through all orders of labels that part at several depths.
func TestSmallOrders(t *testing.T) {
	l := []pair{{api.Hash{}, sumOf(0)}, {api.Hash{31: 1}, sumOf(1)}, {api.Hash{0x80}, sumOf(2)}, {api.Hash{1}, sumOf(3)}, {api.Hash{0, 0x80}, sumOf(4)}, {api.Hash{1, 1}, sumOf(5)}}
	want := wantRoot(l, 0)
	var walk func(done int)
	walk = func(done int) {
		if done == len(l) {
			if got := treeOf(l).Root(); got != want {
				t.Errorf("P12.1: Root of six labels in another order: %x, want %x", got, want)
			}
			return
		}
		for i := done; i < len(l); i++ {
			l[done], l[i] = l[i], l[done]
			walk(done + 1)
			l[done], l[i] = l[i], l[done]
		}
	}
	walk(0)
}

// TestVeryMany has as many labels as no list is kept of, and asks each of them.
func TestVeryMany(t *testing.T) {
	n := 10000
	x := tree.New()
	var l []pair
	for i := range n {
		l = append(l, pair{sumOf(i), counted(byte(i))})
		if !x.Put(l[i].label, l[i].sum) {
			t.Fatalf("P12.1: Put of the label %d of many: false", i)
		}
	}
	check(t, "very many", x, l)
	for i := n; i < n+1000; i++ {
		checkNot(t, "very many", x, sumOf(i))
	}
	for i := 0; i < n; i += 1000 {
		checkProof(t, "very many", x, l, sumOf(i))
		checkProof(t, "very many", x, l, sumOf(n+i))
	}
}
