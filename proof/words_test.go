package proof_test

import (
	"crypto/sha256"
	"encoding/hex"
	"fmt"
	"slices"
	"strings"
	"testing"

	"indenture/api"
	"indenture/proof"
	"indenture/tree"
)

// long is for a test that takes a second or more.
func long(t *testing.T) {
	if testing.Short() {
		t.Skip("takes a second or more")
	}
	t.Parallel()
}

// pair is a label and its sum.
type pair struct{ label, sum api.Hash }

// counted is 32 bytes, of which each is one more than the one ahead.
func counted(from byte) api.Hash {
	var h api.Hash
	for i := range h {
		h[i] = from + byte(i)
	}
	return h
}

// same is 32 bytes that are all alike.
func same(c byte) api.Hash { return api.Hash([]byte(strings.Repeat(string([]byte{c}), 32))) }

// turned is h with one bit turned.
func turned(h api.Hash, d int) api.Hash {
	h[d/8] ^= 0x80 >> (d % 8)
	return h
}

// sumOf is a sum of the library's: a label as good as any.
func sumOf(n int) api.Hash { return sha256.Sum256([]byte{byte(n), byte(n >> 8), byte(n >> 16)}) }

// sumOfByte is the library's sum of one byte.
func sumOfByte(n int) api.Hash { return sha256.Sum256([]byte{byte(n)}) }

// hashOf is the hash that is written out.
func hashOf(t testing.TB, s string) api.Hash {
	t.Helper()
	b, err := hex.DecodeString(s)
	if err != nil || len(b) != 32 {
		t.Fatalf("not a hash: %s", s)
	}
	return api.Hash(b)
}

func show(p api.Proof) string {
	if len(p.Sides) > 12 {
		return fmt.Sprintf("%d Sides, Has %v, Label %x, Sum %x", len(p.Sides), p.Has, p.Label, p.Sum)
	}
	return fmt.Sprintf("Sides %x, Has %v, Label %x, Sum %x", p.Sides, p.Has, p.Label, p.Sum)
}

// wayOf is label's bits, written out as noughts and ones.
func wayOf(label api.Hash) string {
	var s strings.Builder
	for _, b := range label {
		fmt.Fprintf(&s, "%08b", b)
	}
	return s.String()
}

// leafOf and nodeOf are chapter 12's words, by the library.
func leafOf(label, sum api.Hash) api.Hash {
	return sha256.Sum256(slices.Concat([]byte{0}, label[:], sum[:]))
}

func nodeOf(left, right api.Hash) api.Hash {
	return sha256.Sum256(slices.Concat([]byte{1}, left[:], right[:]))
}

// built is the root over end, which stands on the way below all of the sides.
func built(way string, sides []api.Hash, end api.Hash) api.Hash {
	if len(sides) == 0 {
		return end
	}
	below := built(way[1:], sides[1:], end)
	if way[0] == '0' {
		return nodeOf(below, sides[0])
	}
	return nodeOf(sides[0], below)
}

// both is the root of two, of which each goes a way of its own; they part somewhere on these.
func both(wayA, wayB string, a, b api.Hash) api.Hash {
	switch wayA[:1] + wayB[:1] {
	case "01":
		return nodeOf(a, b)
	case "10":
		return nodeOf(b, a)
	case "00":
		return nodeOf(both(wayA[1:], wayB[1:], a, b), api.Hash{})
	}
	return nodeOf(api.Hash{}, both(wayA[1:], wayB[1:], a, b))
}

// endOf is what stands where p's way ends.
func endOf(p api.Proof) api.Hash {
	if p.Has {
		return leafOf(p.Label, p.Sum)
	}
	return api.Hash{}
}

// rootOf is the root under which p is a proof for label, if it is one at all.
func rootOf(label api.Hash, p api.Proof) api.Hash { return built(wayOf(label), p.Sides, endOf(p)) }

// isProof is the chapter's words, over ways that are written out.
func isProof(root, label api.Hash, p api.Proof) bool {
	switch {
	case len(p.Sides) > 256:
		return false
	case !p.Has && (p.Label != api.Hash{} || p.Sum != api.Hash{}):
		return false
	case p.Has && p.Label != label && !strings.HasPrefix(wayOf(p.Label), wayOf(label)[:len(p.Sides)]):
		return false
	}
	return rootOf(label, p) == root
}

// rootAfter is the root once label has sum, where p is a proof.
func rootAfter(label, sum api.Hash, p api.Proof) api.Hash {
	end := leafOf(label, sum)
	if p.Has && p.Label != label {
		n := len(p.Sides)
		end = both(wayOf(label)[n:], wayOf(p.Label)[n:], end, endOf(p))
	}
	return built(wayOf(label), p.Sides, end)
}

// holds is that p is a proof, which tells of sum, has.
func holds(t testing.TB, what string, root, label api.Hash, p api.Proof, sum api.Hash, has bool) {
	t.Helper()
	if s, h, ok := proof.Check(root, label, p); s != sum || h != has || !ok {
		t.Errorf("P13.1: %s: Check of %x: %x, %v, %v, want %x, %v, true\n%s", what, label, s, h, ok, sum, has, show(p))
	}
	for _, put := range []api.Hash{p.Sum, counted(0x77)} {
		want := rootAfter(label, put, p)
		if got, ok := proof.After(root, label, put, p); got != want || !ok {
			t.Errorf("P13.1: %s: After of %x, %x: %x, %v, want %x, true\n%s", what, label, put, got, ok, want, show(p))
		}
	}
}

// none is that p is no proof.
func none(t testing.TB, what string, root, label api.Hash, p api.Proof) {
	t.Helper()
	if s, h, ok := proof.Check(root, label, p); s != (api.Hash{}) || h || ok {
		t.Errorf("P13.1: %s: Check of %x, no proof: %x, %v, %v\n%s", what, label, s, h, ok, show(p))
	}
	for _, put := range []api.Hash{p.Sum, counted(0x77)} {
		if got, ok := proof.After(root, label, put, p); got != (api.Hash{}) || ok {
			t.Errorf("P13.1: %s: After of %x, %x, no proof: %x, %v\n%s", what, label, put, got, ok, show(p))
		}
	}
}

// byWords holds p against the chapter's words, whatever it is.
func byWords(t testing.TB, what string, root, label api.Hash, p api.Proof) bool {
	t.Helper()
	if !isProof(root, label, p) {
		none(t, what, root, label, p)
		return false
	}
	if p.Has && p.Label == label {
		holds(t, what, root, label, p, p.Sum, true)
	} else {
		holds(t, what, root, label, p, api.Hash{}, false)
	}
	return true
}

// treeOf is a tree into which l was put.
func treeOf(l []pair) *tree.Tree {
	x := tree.New()
	for _, p := range l {
		x.Put(p.label, p.sum)
	}
	return x
}

// family is a list of labels, of which none stands twice.
type family struct {
	name string
	l    []pair
}

// families are trees of none, of one, of two that part at some bit, and of many that part early, late and at many depths.
func families() []family {
	all := []family{
		{"none", nil},
		{"one", []pair{{counted(1), counted(2)}}},
		{"one of noughts", []pair{{}}},
		{"one of ones", []pair{{same(0xff), same(0xff)}}},
	}
	for _, d := range []int{0, 1, 7, 8, 9, 100, 254, 255} {
		all = append(all, family{fmt.Sprintf("two that part at the bit %d", d), []pair{{counted(0x5a), counted(1)}, {turned(counted(0x5a), d), counted(2)}}})
	}
	many := []family{{"sums", nil}, {"first bytes", nil}, {"last bytes", nil}, {"bytes in the midst", nil}, {"a bit each", nil}}
	for i := range 60 {
		n := byte(i)
		for k, label := range []api.Hash{sumOf(i), {4 * n}, {31: n}, {14: n, 17: n}, turned(same(0xff), 255*i/59)} {
			many[k].l = append(many[k].l, pair{label, sumOf(1000 + i)})
		}
	}
	return append(all, many...)
}

// asked are labels that are there, such as part from these at some bit, and such as have nothing to do with them.
func asked(l []pair) []api.Hash {
	labels := []api.Hash{{}, same(0xff), same(0x55), counted(0), sumOf(5000), sumOf(5001)}
	for i := 0; i < len(l); i += 1 + len(l)/12 {
		labels = append(labels, l[i].label)
		for _, d := range []int{0, 1, 2, 6, 7, 8, 9, 60 + i, 254, 255} {
			labels = append(labels, turned(l[i].label, d))
		}
	}
	return labels
}
