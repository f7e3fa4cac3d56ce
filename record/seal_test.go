package record_test

import (
	"bytes"
	"crypto/sha256"
	"encoding/binary"
	"encoding/hex"
	"math"
	"strings"
	"testing"

	"indenture/api"
	"indenture/box"
	"indenture/keys"
	"indenture/num"
	"indenture/record"
	"indenture/sha"
	"indenture/tape"
)

// pair is a box, and another that gives the same: what the one is asked through record, the other is asked by the tests' own road.
type pair struct {
	mode  string
	x     *box.Box
	other *box.Box
}

func pairs() []pair {
	return []pair{
		{"real", box.New(api.Real, nil), box.New(api.Real, nil)},
		{"ideal", box.New(api.Ideal, tape.New(4)), box.New(api.Ideal, tape.New(4))},
	}
}

// someSecret, someLabel and someRec are those of the tests at which any would do.
func someSecret() []byte { return []byte("secret") }

func someLabel() api.Hash { return api.Hash(text(32)) }

func someRec() api.Rec { return api.Rec{Ver: 3, Val: "a value"} }

// secrets go about the ends of a block, and differ by noughts at their ends.
func secrets() [][]byte {
	return [][]byte{nil, someSecret(), []byte("secret\x00"), {0}, {0xff}, text(32), text(63), text(64), text(65), text(1000)}
}

func labels() []api.Hash {
	return []api.Hash{{}, api.Hash(bytes.Repeat([]byte{0xff}, 32)), {0: 1}, {31: 1}, {31: 0x80}, someLabel()}
}

// counts are the numbers from 0 on about which num.Put takes one more byte, and those about which one more byte of a nonce counts.
func counts() []int64 {
	all := []int64{0, 1, 2, 150, greatest, math.MaxInt64 - 1, math.MaxInt64}
	for bits := 6; bits < 63; bits += 7 {
		all = append(all, 1<<bits-1, 1<<bits, 1<<bits+1)
	}
	for bits := 8; bits < 63; bits += 8 {
		all = append(all, 1<<bits-1, 1<<bits)
	}
	return all
}

// below are numbers below 0, those too about which num.Put takes one more byte.
func below() []int64 {
	all := []int64{-1, -2, -256, -greatest, math.MinInt64, math.MinInt64 + 1}
	for bits := 6; bits < 63; bits += 7 {
		all = append(all, -1<<bits, -1<<bits-1, -1<<bits+1)
	}
	return all
}

// varint is num.Put by the library.
func varint(n int64) []byte { return binary.AppendVarint(nil, n) }

func beside(label api.Hash, epoch int64) []byte {
	return append(bytes.Clone(label[:]), varint(epoch)...)
}

// byHand seals bytes as a record's would be, whatever they are.
func byHand(x *box.Box, secret []byte, epoch, nonce int64, label api.Hash, b []byte) api.Env {
	return api.Env{Epoch: epoch, Nonce: nonce, Box: string(x.Seal(keys.Of(secret, epoch).Seal, nonce, beside(label, epoch), b))}
}

func mustSeal(t testing.TB, x *box.Box, secret []byte, epoch, nonce int64, label api.Hash, r api.Rec) api.Env {
	t.Helper()
	e, err := record.Seal(x, secret, epoch, nonce, label, r)
	if err != api.OK {
		t.Fatalf("P11.2: Seal of %d bytes, epoch %d, nonce %d: error %d", len(r.Val), epoch, nonce, err)
	}
	return e
}

// checkSeal holds Seal against the other box, and what it sealed against what the box itself opens.
func checkSeal(t testing.TB, p pair, secret []byte, epoch, nonce int64, label api.Hash, r api.Rec) {
	t.Helper()
	e := mustSeal(t, p.x, secret, epoch, nonce, label, r)
	if want := byHand(p.other, secret, epoch, nonce, label, wantPut(r)); e != want {
		t.Errorf("P11.2, %s: Seal of %d bytes: epoch %d, nonce %d, %x, want epoch %d, nonce %d, %x", p.mode, len(r.Val), e.Epoch, e.Nonce, e.Box, epoch, nonce, want.Box)
	}
	b, ok := p.x.Open(keys.Of(secret, epoch).Seal, nonce, beside(label, epoch), []byte(e.Box))
	if !ok || !bytes.Equal(b, wantPut(r)) {
		t.Errorf("P11.2, %s: Seal of %d bytes, epoch %d, nonce %d: by another key, with something else beside, or of something else", p.mode, len(r.Val), epoch, nonce)
	}
	checkOpens(t, p.mode, p.x, secret, label, e, r)
}

// checkRefusedSeal holds that nothing was sealed, and that nothing of the tape went: the pair still gives the same.
func checkRefusedSeal(t testing.TB, p pair, secret []byte, epoch, nonce int64, label api.Hash, r api.Rec) {
	t.Helper()
	if e, err := record.Seal(p.x, secret, epoch, nonce, label, r); e != (api.Env{}) || err != api.ErrForm {
		t.Errorf("P11.2, %s: Seal of Ver %d, Gone %v, %d bytes, epoch %d, nonce %d: a box of %d bytes, error %d, want zero, ErrForm", p.mode, r.Ver, r.Gone, len(r.Val), epoch, nonce, len(e.Box), err)
	}
	got, want := p.x.Seal(someLabel(), 1, nil, nil), p.other.Seal(someLabel(), 1, nil, nil)
	if !bytes.Equal(got, want) {
		t.Errorf("P11.2, %s: Seal that was refused took of the box's tape", p.mode)
	}
}

func checkOpens(t testing.TB, what string, x *box.Box, secret []byte, label api.Hash, e api.Env, want api.Rec) {
	t.Helper()
	if r, err := record.Open(x, secret, label, e); r != want || err != api.OK {
		t.Errorf("P11.2, %s: Open of %d bytes, epoch %d, nonce %d: Ver %d, %d bytes, error %d, want Ver %d, %d bytes", what, len(e.Box), e.Epoch, e.Nonce, r.Ver, len(r.Val), err, want.Ver, len(want.Val))
	}
}

func checkRefused(t testing.TB, what string, x *box.Box, secret []byte, label api.Hash, e api.Env) {
	t.Helper()
	if r, err := record.Open(x, secret, label, e); r != (api.Rec{}) || err != api.ErrOpen {
		t.Errorf("P11.2, %s: Open of %d bytes, epoch %d, nonce %d: Ver %d, %d bytes, error %d, want zero, ErrOpen", what, len(e.Box), e.Epoch, e.Nonce, r.Ver, len(r.Val), err)
	}
}

// TestSealWrittenOut holds Seal and Sum against what another program made.
func TestSealWrittenOut(t *testing.T) {
	var all api.Hash
	for i := range all {
		all[i] = byte(i)
	}
	x := box.New(api.Real, nil)
	for _, c := range []struct {
		secret       string
		epoch, nonce int64
		label        api.Hash
		r            api.Rec
		box, sum     string
	}{
		{"secret", 2, 9, api.Hash{5}, api.Rec{Ver: 3, Val: "a value"},
			"fbc0fe4daffc906f64baab99c53b0cd3d25f4dee9b76488ab7ed028540b935674e8f6c7d8f68a00a58ac199834ced8a0",
			"6b4b92b1cd689080b85119ce31698b8898e74406bacd8baf44b6d519b0bdf61c"},
		{"", 0, 0, api.Hash{}, api.Rec{Ver: 1, Gone: true},
			"3afa817097e6f30a90bdd95c3ed1b347c5a95fe30c7b109c9e3d9d3bcff1ffff9ab77c1da30d9938c0b792dc62a9a639",
			"0c62c952ba5c5f6205d09e7dafedd1c1e359560c6194b8c16e54b8ff050368fe"},
		{"secret", 64, math.MaxInt64, all, api.Rec{Ver: greatest, Val: "a value that is longer than what the least length holds"},
			"250da14d1418cfe0caf2254e1bea7d3376b759be3197503dffd3be6bad73e1bb0f76925e5738dd4d433e2e0551d006b6" +
				"002592e5d6296687568304b01d75cc837086471557dcb075a335c36f86eec8c42ec4bf7bfec106144a2f8adbd8eba652" +
				"8aa5f2c1eea281b3fc09c1a51b860c9b35dde1fa3bb68200a177c68f26e9cf52b560c9a1f4a1ad41df14bf54364fb528",
			"b65089f19606a555d98b141b3451531de82b0cf4a784eceebfa5557e494d5c76"},
	} {
		e := mustSeal(t, x, []byte(c.secret), c.epoch, c.nonce, c.label, c.r)
		if got := hex.EncodeToString([]byte(e.Box)); e.Epoch != c.epoch || e.Nonce != c.nonce || got != c.box {
			t.Errorf("P11.2: Seal of Ver %d: epoch %d, nonce %d, %s, want %s", c.r.Ver, e.Epoch, e.Nonce, got, c.box)
		}
		checkOpens(t, "real", x, []byte(c.secret), c.label, e, c.r)
		checkSumIs(t, e, c.sum)
	}
	checkSumIs(t, api.Env{}, "96a296d224f285c67bee93c30f8a309157f0daa35dc5b87e410b78630a09cfc7")
	checkSumIs(t, api.Env{Epoch: -1, Nonce: -65, Box: "box"}, "0682ac0ca757584208c2c239467249a8ce85d4f5d4c88768fe80d7e84f365546")
	checkSumIs(t, api.Env{Epoch: math.MinInt64, Nonce: math.MaxInt64, Box: "\x00"}, "8affcbc96d9bda7a776b5045b20297df6f0e58e54edeeda916811381a2bf1c4e")
}

func checkSumIs(t *testing.T, e api.Env, want string) {
	t.Helper()
	if got := record.Sum(e); hex.EncodeToString(got[:]) != want {
		t.Errorf("P11.2: Sum of epoch %d, nonce %d, %d bytes: %x, want %s", e.Epoch, e.Nonce, len(e.Box), got, want)
	}
}

func TestSealOfEveryRecord(t *testing.T) {
	for _, p := range pairs() {
		for _, r := range records() {
			checkSeal(t, p, someSecret(), 2, 9, someLabel(), r)
		}
	}
}

func TestSealOfEveryNumber(t *testing.T) {
	for _, p := range pairs() {
		for _, n := range counts() {
			checkSeal(t, p, someSecret(), n, 9, someLabel(), someRec())
			checkSeal(t, p, someSecret(), 2, n, someLabel(), someRec())
			checkSeal(t, p, someSecret(), n, n, someLabel(), someRec())
		}
	}
}

func TestSealOfEverySecretAndLabel(t *testing.T) {
	for _, p := range pairs() {
		for _, secret := range secrets() {
			for _, label := range labels() {
				checkSeal(t, p, secret, 64, 9, label, someRec())
				checkSeal(t, p, secret, 0, 0, label, api.Rec{Ver: 1, Gone: true})
			}
		}
	}
}

// TestLengthsTellLittle holds that what is sealed is as long as the filled up record and a tag.
func TestLengthsTellLittle(t *testing.T) {
	for _, p := range pairs() {
		for _, c := range [][2]int{{0, 48}, {1, 48}, {20, 48}, {21, 48}, {22, 144}, {117, 144}, {118, 528}, {501, 528}, {502, 2064}, {999, 2064}, {1000, 2064}} {
			e := mustSeal(t, p.x, someSecret(), 2, 9, someLabel(), api.Rec{Ver: 3, Val: string(text(c[0]))})
			if len(e.Box) != c[1] {
				t.Errorf("P11.2, %s: Seal of %d bytes: %d, want %d", p.mode, c[0], len(e.Box), c[1])
			}
		}
	}
}

func TestSealOfWhatMayNotBe(t *testing.T) {
	for _, p := range pairs() {
		for _, r := range noRecords() {
			checkRefusedSeal(t, p, someSecret(), 2, 9, someLabel(), r)
			checkRefusedSeal(t, p, someSecret(), -1, -1, someLabel(), r)
		}
	}
}

func TestSealBelowNought(t *testing.T) {
	for _, p := range pairs() {
		for _, n := range below() {
			for _, r := range []api.Rec{someRec(), {Ver: 1, Gone: true}, {Ver: greatest, Val: string(text(most))}, {}} {
				checkRefusedSeal(t, p, someSecret(), n, 9, someLabel(), r)
				checkRefusedSeal(t, p, someSecret(), 2, n, someLabel(), r)
				checkRefusedSeal(t, p, someSecret(), n, n, someLabel(), r)
				checkRefusedSeal(t, p, someSecret(), n, math.MaxInt64, someLabel(), r)
				checkRefusedSeal(t, p, someSecret(), math.MaxInt64, n, someLabel(), r)
			}
		}
	}
}

// TestBoxesThatSealNothing has each way in which chapter 08 gives no box.
func TestBoxesThatSealNothing(t *testing.T) {
	real := box.New(api.Real, nil)
	e := mustSeal(t, real, someSecret(), 2, 9, someLabel(), someRec())
	for name, x := range map[string]*box.Box{
		"no box": nil, "another mode": box.New(2, tape.New(4)), "a mode below 0": box.New(-1, nil), "ideal, no tape": box.New(api.Ideal, nil),
	} {
		for _, r := range append(noRecords(), someRec(), api.Rec{Ver: 1, Gone: true}) {
			for _, n := range []int64{0, 1, -1, math.MaxInt64} {
				if e, err := record.Seal(x, someSecret(), n, n, someLabel(), r); e != (api.Env{}) || err != api.ErrForm {
					t.Errorf("P11.2, %s: Seal of Ver %d, %d bytes, number %d: error %d, want zero, ErrForm", name, r.Ver, len(r.Val), n, err)
				}
			}
		}
		checkRefused(t, name, x, someSecret(), someLabel(), e)
		checkRefused(t, name, x, nil, api.Hash{}, api.Env{})
	}
}

// TestOfNoMaking holds that a Box that box.New did not make ends no program.
func TestOfNoMaking(t *testing.T) {
	x := new(box.Box)
	for _, n := range append(counts(), below()...) {
		e, _ := record.Seal(x, someSecret(), n, n, someLabel(), someRec())
		record.Open(x, someSecret(), someLabel(), e)
	}
}

// eachBit hands f each form of b in which one bit is turned.
func eachBit(b []byte, f func(turned []byte)) {
	for bit := range 8 * len(b) {
		turned := bytes.Clone(b)
		turned[bit/8] ^= 1 << (bit % 8)
		f(turned)
	}
}

// TestJustThese turns each bit of all that is handed to Open, and cuts and moves its bytes.
func TestJustThese(t *testing.T) {
	for _, p := range pairs() {
		for _, r := range []api.Rec{someRec(), {Ver: 1, Gone: true}, {Ver: greatest, Val: string(text(22))}} {
			secret, label := someSecret(), someLabel()
			e := mustSeal(t, p.x, secret, 5, 9, label, r)
			refused := func(what string, secret []byte, label api.Hash, epoch, nonce int64, sealed string) {
				t.Helper()
				checkRefused(t, p.mode+", "+what, p.x, secret, label, api.Env{Epoch: epoch, Nonce: nonce, Box: sealed})
			}
			eachBit(secret, func(b []byte) { refused("another secret", b, label, 5, 9, e.Box) })
			eachBit(label[:], func(b []byte) { refused("another label", secret, api.Hash(b), 5, 9, e.Box) })
			eachBit([]byte(e.Box), func(b []byte) { refused("a bit of the box", secret, label, 5, 9, string(b)) })
			for bit := range 64 {
				refused("another epoch", secret, label, 5^1<<bit, 9, e.Box)
				refused("another nonce", secret, label, 5, 9^1<<bit, e.Box)
			}
			refused("the numbers exchanged", secret, label, 9, 5, e.Box)
			refused("the epoch below 0", secret, label, -5, 9, e.Box)
			refused("the nonce below 0", secret, label, 5, -9, e.Box)
			for i := range len(e.Box) {
				refused("cut off", secret, label, 5, 9, e.Box[:i])
				refused("cut off ahead", secret, label, 5, 9, e.Box[i+1:])
			}
			refused("longer", secret, label, 5, 9, e.Box+"\x00")
			refused("longer ahead", secret, label, 5, 9, "\x00"+e.Box)
			refused("twice", secret, label, 5, 9, e.Box+e.Box)
			refused("no secret", nil, label, 5, 9, e.Box)
			refused("a longer secret", append(someSecret(), 0), label, 5, 9, e.Box)
			refused("zero", secret, label, 0, 0, "")
			checkOpens(t, p.mode, p.x, secret, label, e, r)
		}
	}
}

// TestBoxOfEveryLength opens what nobody sealed.
func TestBoxOfEveryLength(t *testing.T) {
	for _, p := range pairs() {
		for _, n := range []int{0, 1, 9, 15, 16, 17, 47, 48, 49, 144, 528, 2064, 2100, 3016, 5000, 1 << 20} {
			for _, b := range [][]byte{text(n), make([]byte, n)} {
				for _, k := range []int64{0, 1, -1, math.MaxInt64, math.MinInt64} {
					checkRefused(t, p.mode+", what nobody sealed", p.x, someSecret(), someLabel(), api.Env{Epoch: k, Nonce: k, Box: string(b)})
				}
			}
		}
	}
}

// TestManyRecords seals first all of them, then opens, so that nothing stands for anything else.
func TestManyRecords(t *testing.T) {
	type note struct {
		label api.Hash
		e     api.Env
		r     api.Rec
	}
	for _, p := range pairs() {
		var notes []note
		for i := range 200 {
			label, r := labels()[i%6], api.Rec{Ver: int64(i) + 1, Val: string(text(i * 5))}
			notes = append(notes, note{label, mustSeal(t, p.x, someSecret(), int64(i%7), int64(i), label, r), r})
		}
		for i, z := range notes {
			checkOpens(t, p.mode, p.x, someSecret(), z.label, z.e, z.r)
			next := notes[(i+1)%len(notes)]
			checkRefused(t, p.mode+", another's box", p.x, someSecret(), z.label, api.Env{Epoch: z.e.Epoch, Nonce: z.e.Nonce, Box: next.e.Box})
			checkRefused(t, p.mode+", another's label", p.x, someSecret(), next.label, z.e)
		}
	}
}

// TestTheOtherKeys seals by what keys.Of gives for other ends.
func TestTheOtherKeys(t *testing.T) {
	for _, p := range pairs() {
		k := keys.Of(someSecret(), 2)
		for _, key := range []api.Hash{k.Mark, k.Label, keys.Of(someSecret(), 0).Seal, {}} {
			c := p.x.Seal(key, 9, beside(someLabel(), 2), wantPut(someRec()))
			checkRefused(t, p.mode+", another key", p.x, someSecret(), someLabel(), api.Env{Epoch: 2, Nonce: 9, Box: string(c)})
		}
	}
}

// TestOtherThingsBeside seals with something else beside than the label and the epoch.
func TestOtherThingsBeside(t *testing.T) {
	for _, p := range pairs() {
		label := someLabel()
		for what, ad := range map[string][]byte{
			"nothing": nil, "the label alone": label[:], "the epoch alone": varint(64), "the other way round": append(varint(64), label[:]...),
			"eight bytes": binary.BigEndian.AppendUint64(bytes.Clone(label[:]), 64), "the number itself": append(bytes.Clone(label[:]), 64),
			"the nonce": beside(label, 9), "more": append(beside(label, 64), 0),
		} {
			c := p.x.Seal(keys.Of(someSecret(), 64).Seal, 9, ad, wantPut(someRec()))
			checkRefused(t, p.mode+", beside it "+what, p.x, someSecret(), label, api.Env{Epoch: 64, Nonce: 9, Box: string(c)})
		}
		checkOpens(t, p.mode, p.x, someSecret(), label, byHand(p.x, someSecret(), 64, 9, label, wantPut(someRec())), someRec())
	}
}

// TestWhatGetDoesNotTake seals bytes that are no record: the box opens them.
func TestWhatGetDoesNotTake(t *testing.T) {
	long := strings.Repeat("v", most+1)
	none := [][]byte{
		nil, {0}, make([]byte, 32), make([]byte, 128), text(32), text(2048), []byte("a value"), filled(nil), filled(text(8)), within(3, 0, "a value"),
		filled(within(0, 0, "")), filled(within(greatest+1, 0, "v")), filled(within(1<<63+1, 0, "v")), filled(within(math.MaxUint64, 0, "")),
		filled(within(3, 2, "")), filled(within(3, 255, "v")), filled(within(3, 1, "v")), filled(within(3, 0, long)), filled(within(3, 1, long)),
		wantPut(someRec())[1:], wantPut(someRec())[:31], append(wantPut(someRec()), 0), append(wantPut(someRec()), make([]byte, 96)...),
		filled(wantPut(someRec())), append(wantPut(someRec())[:31], 1),
	}
	for _, p := range pairs() {
		for i, b := range none {
			checkNone(t, b, "no record")
			nonce := int64(i)
			e := byHand(p.x, someSecret(), 2, nonce, someLabel(), b)
			if got, ok := p.x.Open(keys.Of(someSecret(), 2).Seal, nonce, beside(someLabel(), 2), []byte(e.Box)); !ok || !bytes.Equal(got, b) {
				t.Fatalf("P11.2, %s: what was sealed by hand does not open", p.mode)
			}
			checkRefused(t, p.mode+", what Get does not take", p.x, someSecret(), someLabel(), e)
		}
	}
}

// TestOpenAsksTheBoxAlone opens what was sealed at an epoch below 0: Seal makes no such, but the box opens it. Of a nonce below 0 no box opens anything.
func TestOpenAsksTheBoxAlone(t *testing.T) {
	for _, p := range pairs() {
		for _, n := range below() {
			checkOpens(t, p.mode, p.x, someSecret(), someLabel(), byHand(p.x, someSecret(), n, 9, someLabel(), wantPut(someRec())), someRec())
			checkRefused(t, p.mode, p.x, someSecret(), someLabel(), byHand(p.x, someSecret(), 2, n, someLabel(), wantPut(someRec())))
		}
	}
}

// TestOtherBoxes holds that a real box opens what another one sealed, and an ideal one only its own.
func TestOtherBoxes(t *testing.T) {
	real, ideal := pairs()[0], pairs()[1]
	e := mustSeal(t, real.x, someSecret(), 2, 9, someLabel(), someRec())
	d := mustSeal(t, ideal.x, someSecret(), 2, 9, someLabel(), someRec())
	checkOpens(t, "another real box", real.other, someSecret(), someLabel(), e, someRec())
	checkRefused(t, "another ideal box", ideal.other, someSecret(), someLabel(), d)
	checkRefused(t, "an ideal box, of a real one's", ideal.x, someSecret(), someLabel(), e)
	checkRefused(t, "a real box, of an ideal one's", real.x, someSecret(), someLabel(), d)
}

// TestOpenTakesNothing holds that Open, good or refused, leaves the tape as it is.
func TestOpenTakesNothing(t *testing.T) {
	for _, p := range pairs() {
		checkSeal(t, p, someSecret(), 2, 9, someLabel(), someRec())
		e := byHand(p.x, someSecret(), 2, 9, someLabel(), wantPut(someRec()))
		byHand(p.other, someSecret(), 2, 9, someLabel(), wantPut(someRec()))
		for range 3 {
			checkOpens(t, p.mode, p.x, someSecret(), someLabel(), e, someRec())
			checkRefused(t, p.mode, p.x, someSecret(), api.Hash{}, e)
			record.Sum(e)
			checkSeal(t, p, someSecret(), 2, 9, someLabel(), someRec())
		}
	}
}

// sum is the chapter's words by the library.
func sum(e api.Env) api.Hash {
	return sha256.Sum256(append(append(varint(e.Epoch), varint(e.Nonce)...), e.Box...))
}

func checkSum(t testing.TB, e api.Env) {
	t.Helper()
	if got, want := record.Sum(e), sum(e); got != want || got != sha.Sum(num.Put(nil, e.Epoch), num.Put(nil, e.Nonce), []byte(e.Box)) {
		t.Errorf("P11.2: Sum of epoch %d, nonce %d, %d bytes: %x, want %x", e.Epoch, e.Nonce, len(e.Box), got, want)
	}
}

func TestSumOfEveryNumber(t *testing.T) {
	all := append(counts(), below()...)
	for _, epoch := range all {
		for _, nonce := range all {
			checkSum(t, api.Env{Epoch: epoch, Nonce: nonce})
			checkSum(t, api.Env{Epoch: epoch, Nonce: nonce, Box: "a box"})
		}
	}
}

func TestSumOfEveryBox(t *testing.T) {
	for n := range 300 {
		checkSum(t, api.Env{Epoch: 2, Nonce: 9, Box: string(text(n))})
		checkSum(t, api.Env{Epoch: -65, Nonce: 8192, Box: strings.Repeat("\x00", n)})
	}
	for _, n := range []int{2064, 2100, 3016, 40000, 1 << 20} {
		checkSum(t, api.Env{Epoch: 2, Nonce: 9, Box: string(text(n))})
	}
	for _, p := range pairs() {
		for _, r := range records() {
			checkSum(t, mustSeal(t, p.x, someSecret(), 2, 9, someLabel(), r))
		}
	}
}

// TestSumsAreToldApart turns each bit of all that a sum is of.
func TestSumsAreToldApart(t *testing.T) {
	e := api.Env{Epoch: 5, Nonce: 9, Box: string(text(48))}
	seen := map[api.Hash]bool{record.Sum(e): true, record.Sum(api.Env{Epoch: 9, Nonce: 5, Box: e.Box}): true, record.Sum(api.Env{Epoch: 5, Nonce: 9}): true}
	want := 3
	for bit := range 64 {
		seen[record.Sum(api.Env{Epoch: 5 ^ 1<<bit, Nonce: 9, Box: e.Box})] = true
		seen[record.Sum(api.Env{Epoch: 5, Nonce: 9 ^ 1<<bit, Box: e.Box})] = true
		want += 2
	}
	eachBit([]byte(e.Box), func(b []byte) {
		seen[record.Sum(api.Env{Epoch: 5, Nonce: 9, Box: string(b)})] = true
		want++
	})
	if len(seen) != want {
		t.Errorf("P11.2: %d unlike sums, want %d", len(seen), want)
	}
}

// TestSecretIsNotChangedOrKept hands in secrets with spare room, and writes into them behind the calls.
func TestSecretIsNotChangedOrKept(t *testing.T) {
	for _, p := range pairs() {
		for _, secret := range secrets() {
			long := append(bytes.Clone(secret), spareRoom()...)
			given := long[:len(secret)]
			e := mustSeal(t, p.x, given, 2, 9, someLabel(), someRec())
			checkOpens(t, p.mode, p.x, given, someLabel(), e, someRec())
			if !bytes.Equal(long, append(bytes.Clone(secret), spareRoom()...)) {
				t.Errorf("P0.3, %s: Seal or Open changed a secret of %d bytes or its spare room", p.mode, len(secret))
			}
			before := record.Sum(e)
			turnAll(long)
			checkOpens(t, p.mode, p.x, secret, someLabel(), e, someRec())
			if len(secret) > 0 {
				checkRefused(t, p.mode+", a secret written over", p.x, given, someLabel(), e)
			}
			if record.Sum(e) != before {
				t.Errorf("P0.3, %s: what Seal told hangs on the secret of %d bytes", p.mode, len(secret))
			}
		}
	}
}

// TestNilSecretIsEmpty hands in no secret in all its forms.
func TestNilSecretIsEmpty(t *testing.T) {
	none := [][]byte{nil, {}, text(9)[:0]}
	for _, p := range pairs() {
		for _, a := range none {
			e := mustSeal(t, p.x, a, 2, 9, someLabel(), someRec())
			for _, b := range none {
				checkOpens(t, p.mode, p.x, b, someLabel(), e, someRec())
			}
		}
	}
}

// TestLabelsAreValues writes into a label behind the call that it was handed to.
func TestLabelsAreValues(t *testing.T) {
	for _, p := range pairs() {
		label := someLabel()
		e := mustSeal(t, p.x, someSecret(), 2, 9, label, someRec())
		turnAll(label[:])
		checkOpens(t, p.mode, p.x, someSecret(), someLabel(), e, someRec())
		checkRefused(t, p.mode, p.x, someSecret(), label, e)
		label = someLabel()
		record.Open(p.x, someSecret(), label, e)
		if label != someLabel() {
			t.Errorf("P0.3, %s: Open changed a label", p.mode)
		}
	}
}

// TestAnswersAreTheCallersOwn changes what the calls told, and what was handed in, and asks again.
func TestAnswersAreTheCallersOwn(t *testing.T) {
	for _, p := range pairs() {
		val := text(40)
		r := api.Rec{Ver: 3, Val: string(val)}
		e := mustSeal(t, p.x, someSecret(), 2, 9, someLabel(), r)
		kept := e
		turnAll(val)
		r.Ver, r.Val = 4, "another value"
		e.Epoch, e.Nonce, e.Box = 3, 8, e.Box[1:]
		one, _ := record.Open(p.x, someSecret(), someLabel(), kept)
		one.Ver, one.Gone, one.Val = 0, true, ""
		checkOpens(t, p.mode, p.x, someSecret(), someLabel(), kept, api.Rec{Ver: 3, Val: string(text(40))})
		b, _ := p.x.Open(keys.Of(someSecret(), 2).Seal, 9, beside(someLabel(), 2), []byte(kept.Box))
		turnAll(b)
		checkOpens(t, p.mode, p.x, someSecret(), someLabel(), kept, api.Rec{Ver: 3, Val: string(text(40))})
	}
}

// TestSealedAgain has the same sealed many times: a real box gives the same, an ideal one what its tape has next, and all of them open.
func TestSealedAgain(t *testing.T) {
	for _, p := range pairs() {
		var all []api.Env
		for range 20 {
			checkSeal(t, p, someSecret(), 2, 9, someLabel(), someRec())
			all = append(all, mustSeal(t, p.x, someSecret(), 2, 9, someLabel(), someRec()))
			byHand(p.other, someSecret(), 2, 9, someLabel(), wantPut(someRec()))
		}
		for _, e := range all {
			checkOpens(t, p.mode, p.x, someSecret(), someLabel(), e, someRec())
			if p.mode == "real" && e != all[0] {
				t.Errorf("P0.5: a real box seals the same as something else the second time")
			}
		}
	}
}

func FuzzSeal(f *testing.F) {
	f.Add([]byte("secret"), int64(2), int64(9), text(32), int64(3), false, "a value")
	f.Add([]byte(nil), int64(-1), int64(0), []byte(nil), int64(1), true, "")
	f.Add(text(65), int64(math.MaxInt64), int64(math.MaxInt64), text(40), int64(greatest), false, string(text(most)))
	f.Fuzz(func(t *testing.T, secret []byte, epoch, nonce int64, name []byte, ver int64, gone bool, val string) {
		var label api.Hash
		copy(label[:], name)
		r := api.Rec{Ver: ver, Gone: gone, Val: val}
		for _, p := range pairs() {
			if _, may := wantGet(mayPut(r)); may && epoch >= 0 && nonce >= 0 {
				checkSeal(t, p, secret, epoch, nonce, label, r)
			} else {
				checkRefusedSeal(t, p, secret, epoch, nonce, label, r)
			}
			checkRefused(t, p.mode, p.x, secret, label, api.Env{Epoch: epoch, Nonce: nonce, Box: val})
		}
		checkSum(t, api.Env{Epoch: epoch, Nonce: nonce, Box: val})
	})
}

// mayPut is wantPut of such whose value can be filled up at all, else nothing.
func mayPut(r api.Rec) []byte {
	if len(r.Val) > most {
		return nil
	}
	return wantPut(r)
}
