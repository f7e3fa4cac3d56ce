package record_test

import (
	"bytes"
	"encoding/binary"
	"math"
	"strings"
	"testing"

	"indenture/api"
	"indenture/pad"
	"indenture/record"
)

const (
	most     = 1000
	greatest = 1 << 40
)

// text is n bytes of which no two pieces are the same.
func text(n int) []byte {
	b := make([]byte, n)
	x := uint32(1)
	for i := range b {
		x = x*1664525 + 1013904223
		b[i] = byte(x >> 24)
	}
	return b
}

// vers are the ends of the versions that may be, and those about each number from which on another byte counts.
func vers() []int64 {
	all := []int64{1, 2, 0x0102030405, greatest - 1, greatest}
	for bits := 7; bits < 40; bits++ {
		all = append(all, 1<<bits-1, 1<<bits, 1<<bits+1)
	}
	return all
}

// noVers are versions that may not be, those among them too of which fewer bytes tell one that may.
func noVers() []int64 {
	all := []int64{0, -1, -2, -255, -256, -greatest, greatest + 1, greatest + 2, greatest + 255, math.MaxInt64, math.MaxInt64 - 1, math.MinInt64, math.MinInt64 + 1}
	for bits := 41; bits < 63; bits++ {
		all = append(all, 1<<bits-1, 1<<bits, 1<<bits+1, -1<<bits, -1<<bits+1)
	}
	return all
}

// lengths go about the ends of what chapter 10's lengths have room for behind nine bytes, and about the longest value.
func lengths() []int {
	return []int{0, 1, 2, 8, 9, 19, 20, 21, 22, 23, 30, 32, 115, 116, 117, 118, 119, 126, 128, 246, 247, 248, 255, 256, 499, 500, 501, 502, 503, 510, 512, 998, 999, 1000}
}

// values are of each length: letters, noughts (as the filling is), ones, and bytes that are no text.
func values() []string {
	var all []string
	for _, n := range lengths() {
		all = append(all, string(text(n)), strings.Repeat("v", n), strings.Repeat("\x00", n), strings.Repeat("\xff", n), strings.Repeat("\x01\x00", n/2))
	}
	return append(all, "käse", "\xc3", "\xed\xa0\x80", "a\x00", "\x00a", strings.Repeat("é", most/2))
}

// records are such as may be.
func records() []api.Rec {
	var all []api.Rec
	for _, ver := range vers() {
		all = append(all, api.Rec{Ver: ver}, api.Rec{Ver: ver, Gone: true}, api.Rec{Ver: ver, Val: "a value"})
	}
	for _, val := range values() {
		all = append(all, api.Rec{Ver: 3, Val: val}, api.Rec{Ver: greatest, Val: val})
	}
	return all
}

// noRecords are such as may not be, each for one cause or for several.
func noRecords() []api.Rec {
	var all []api.Rec
	for _, ver := range noVers() {
		all = append(all, api.Rec{Ver: ver}, api.Rec{Ver: ver, Gone: true}, api.Rec{Ver: ver, Val: "a value"}, api.Rec{Ver: ver, Val: strings.Repeat("v", most+1)})
	}
	for _, ver := range []int64{1, 3, greatest} {
		for _, n := range []int{most + 1, most + 2, 2037, 2038, 2046, 65536, 65536 + 5, 1 << 20} {
			all = append(all, api.Rec{Ver: ver, Val: string(text(n))}, api.Rec{Ver: ver, Gone: true, Val: string(text(n))})
		}
		for _, val := range []string{"v", "\x00", "a value", strings.Repeat("v", 999), strings.Repeat("v", most)} {
			all = append(all, api.Rec{Ver: ver, Gone: true, Val: val})
		}
		// As few letters as may be, in more bytes than may be.
		all = append(all, api.Rec{Ver: ver, Val: strings.Repeat("é", most/2) + "v"})
	}
	return append(all, api.Rec{})
}

// within is what a record is ahead of the filling, of fields that need not be those of a record.
func within(ver uint64, mark byte, val string) []byte {
	return append(append(binary.BigEndian.AppendUint64(nil, ver), mark), val...)
}

// filled is chapter 10's words, for at most 2,046 bytes.
func filled(b []byte) []byte {
	out := append(binary.BigEndian.AppendUint16(nil, uint16(len(b))), b...)
	size := 32
	for size < len(out) {
		size *= 4
	}
	return append(out, make([]byte, size-len(out))...)
}

// wantPut is the chapter's words, a byte behind the other.
func wantPut(r api.Rec) []byte {
	if r.Gone {
		return filled(within(uint64(r.Ver), 1, r.Val))
	}
	return filled(within(uint64(r.Ver), 0, r.Val))
}

// wantGet takes b apart by what the chapter says of it, a part behind the other.
func wantGet(b []byte) (api.Rec, bool) {
	if len(b) < 2 {
		return api.Rec{}, false
	}
	n := int(binary.BigEndian.Uint16(b))
	if n < 9 || n > 2046 || len(b) < 2+n || !bytes.Equal(filled(b[2:2+n]), b) {
		return api.Rec{}, false
	}
	ver, mark, val := binary.BigEndian.Uint64(b[2:]), b[10], b[11:2+n]
	if ver < 1 || ver > greatest || mark > 1 || len(val) > most || mark == 1 && len(val) > 0 {
		return api.Rec{}, false
	}
	return api.Rec{Ver: int64(ver), Gone: mark == 1, Val: string(val)}, true
}

func mustPut(t testing.TB, r api.Rec) []byte {
	t.Helper()
	b, err := record.Put(r)
	if err != api.OK {
		t.Fatalf("P11.1: Put of Ver %d, Gone %v, %d bytes: error %d", r.Ver, r.Gone, len(r.Val), err)
	}
	return b
}

func checkPut(t testing.TB, r api.Rec) {
	t.Helper()
	if b, want := mustPut(t, r), wantPut(r); !bytes.Equal(b, want) {
		t.Errorf("P11.1: Put of Ver %d, Gone %v, %d bytes: %x, want %x", r.Ver, r.Gone, len(r.Val), b, want)
	}
}

func checkGet(t testing.TB, b []byte, want api.Rec) {
	t.Helper()
	if r, err := record.Get(b); r != want || err != api.OK {
		t.Errorf("P11.1: Get of %d bytes: Ver %d, Gone %v, %d bytes, error %d, want Ver %d, Gone %v, %d bytes", len(b), r.Ver, r.Gone, len(r.Val), err, want.Ver, want.Gone, len(want.Val))
	}
}

func checkNone(t testing.TB, b []byte, what string) {
	t.Helper()
	if r, err := record.Get(b); r != (api.Rec{}) || err != api.ErrForm {
		t.Errorf("P11.1: Get of %d bytes, %s: Ver %d, Gone %v, %d bytes, error %d, want zero, ErrForm", len(b), what, r.Ver, r.Gone, len(r.Val), err)
	}
}

// checkAny holds Get of whatever bytes against wantGet.
func checkAny(t testing.TB, b []byte, what string) {
	t.Helper()
	if want, ok := wantGet(b); ok {
		checkGet(t, b, want)
	} else {
		checkNone(t, b, what)
	}
}

func TestMayWrittenOut(t *testing.T) {
	for _, v := range []struct {
		ver int64
		ok  bool
	}{
		{math.MinInt64, false}, {-greatest, false}, {-1, false}, {0, false}, {1, true}, {2, true}, {1 << 32, true}, {greatest - 1, true}, {greatest, true},
		{greatest + 1, false}, {1 << 41, false}, {1<<48 + 1, false}, {math.MaxInt64, false},
	} {
		for _, x := range []struct {
			n        int
			ok, gone bool
		}{{0, true, true}, {1, true, false}, {999, true, false}, {1000, true, false}, {1001, false, false}, {1 << 20, false, false}} {
			val := strings.Repeat("v", x.n)
			if got, want := record.May(api.Rec{Ver: v.ver, Val: val}), v.ok && x.ok; got != want {
				t.Errorf("P11.1: May of Ver %d, %d bytes: %v, want %v", v.ver, x.n, got, want)
			}
			if got, want := record.May(api.Rec{Ver: v.ver, Gone: true, Val: val}), v.ok && x.gone; got != want {
				t.Errorf("P11.1: May of Ver %d, Gone, %d bytes: %v, want %v", v.ver, x.n, got, want)
			}
		}
	}
}

func TestMay(t *testing.T) {
	for _, r := range records() {
		if !record.May(r) {
			t.Errorf("P11.1: May of Ver %d, Gone %v, %d bytes is false", r.Ver, r.Gone, len(r.Val))
		}
	}
	for _, r := range noRecords() {
		if record.May(r) {
			t.Errorf("P11.1: May of Ver %d, Gone %v, %d bytes is true", r.Ver, r.Gone, len(r.Val))
		}
	}
}

func TestPutWrittenOut(t *testing.T) {
	for _, c := range []struct {
		r    api.Rec
		want string
	}{
		{api.Rec{Ver: 1}, "\x00\x09\x00\x00\x00\x00\x00\x00\x00\x01\x00" + strings.Repeat("\x00", 21)},
		{api.Rec{Ver: 1, Gone: true}, "\x00\x09\x00\x00\x00\x00\x00\x00\x00\x01\x01" + strings.Repeat("\x00", 21)},
		{api.Rec{Ver: 0x0102030405, Val: "\x00hi"}, "\x00\x0c\x00\x00\x00\x01\x02\x03\x04\x05\x00\x00hi" + strings.Repeat("\x00", 18)},
		{api.Rec{Ver: 0xfedcba9876, Gone: true}, "\x00\x09\x00\x00\x00\xfe\xdc\xba\x98\x76\x01" + strings.Repeat("\x00", 21)},
		{api.Rec{Ver: greatest, Val: strings.Repeat("v", 21)}, "\x00\x1e\x00\x00\x01\x00\x00\x00\x00\x00\x00" + strings.Repeat("v", 21)},
		{api.Rec{Ver: greatest, Val: strings.Repeat("v", 22)}, "\x00\x1f\x00\x00\x01\x00\x00\x00\x00\x00\x00" + strings.Repeat("v", 22) + strings.Repeat("\x00", 95)},
		{api.Rec{Ver: 256, Val: strings.Repeat("v", 502)}, "\x01\xff\x00\x00\x00\x00\x00\x00\x01\x00\x00" + strings.Repeat("v", 502) + strings.Repeat("\x00", 1535)},
		{api.Rec{Ver: 7, Val: strings.Repeat("v", 1000)}, "\x03\xf1\x00\x00\x00\x00\x00\x00\x00\x07\x00" + strings.Repeat("v", 1000) + strings.Repeat("\x00", 1037)},
	} {
		if got := mustPut(t, c.r); string(got) != c.want {
			t.Errorf("P11.1: Put of Ver %d, Gone %v, %d bytes: %x, want %x", c.r.Ver, c.r.Gone, len(c.r.Val), got, c.want)
		}
		checkGet(t, []byte(c.want), c.r)
	}
}

func TestPutAndGet(t *testing.T) {
	for _, r := range records() {
		checkPut(t, r)
		checkGet(t, wantPut(r), r)
		checkGet(t, mustPut(t, r), r)
	}
}

func TestPutOfEveryLength(t *testing.T) {
	for n := range most + 1 {
		for _, val := range []string{string(text(n)), strings.Repeat("\x00", n)} {
			r := api.Rec{Ver: int64(n) + 1, Val: val}
			checkPut(t, r)
			checkGet(t, wantPut(r), r)
		}
	}
}

func TestPutOfEveryByte(t *testing.T) {
	for c := range 256 {
		r := api.Rec{Ver: 1, Val: string([]byte{byte(c)})}
		checkPut(t, r)
		checkGet(t, wantPut(r), r)
	}
}

// TestPutByPad goes the road that the chapter names, with the layer that it names.
func TestPutByPad(t *testing.T) {
	for _, r := range records() {
		mark := byte(0)
		if r.Gone {
			mark = 1
		}
		want, err := pad.Pad(within(uint64(r.Ver), mark, r.Val))
		if got := mustPut(t, r); err != api.OK || !bytes.Equal(got, want) {
			t.Errorf("P11.1: Put of Ver %d, Gone %v, %d bytes: %x, want %x", r.Ver, r.Gone, len(r.Val), got, want)
		}
	}
}

func TestPutOfWhatMayNotBe(t *testing.T) {
	for _, r := range noRecords() {
		if b, err := record.Put(r); b != nil || err != api.ErrForm {
			t.Errorf("P11.1: Put of Ver %d, Gone %v, %d bytes: %d bytes, error %d, want nil, ErrForm", r.Ver, r.Gone, len(r.Val), len(b), err)
		}
	}
}

func TestGetOfNothing(t *testing.T) {
	for _, b := range [][]byte{nil, {}, text(9)[:0], wantPut(api.Rec{Ver: 1})[:0]} {
		checkNone(t, b, "nothing at all")
	}
}

func TestGetOfWhatWasNotFilledUp(t *testing.T) {
	for _, val := range values() {
		checkNone(t, within(3, 0, val), "never filled up")
		checkNone(t, append([]byte{byte((9 + len(val)) >> 8), byte(9 + len(val))}, within(3, 0, val)...)[:11+len(val)-1], "a length ahead, a byte too few")
	}
	for _, size := range []int{1, 2, 9, 11, 31, 32, 33, 127, 128, 129, 511, 512, 513, 2047, 2048, 2049, 8192} {
		checkNone(t, make([]byte, size), "noughts")
		checkNone(t, bytes.Repeat([]byte{0xff}, size), "ones")
		checkAny(t, text(size), "any bytes")
	}
}

func TestGetOfWhatWasCutOff(t *testing.T) {
	for _, n := range lengths() {
		b := wantPut(api.Rec{Ver: 3, Val: string(text(n))})
		for end := range len(b) {
			checkNone(t, b[:end], "cut off")
			checkNone(t, bytes.Clone(b[:end]), "cut off, no room behind it")
		}
		checkNone(t, b[1:], "without its first byte")
		checkNone(t, b[2:], "without its length")
	}
}

func TestGetOfWhatWasMadeLonger(t *testing.T) {
	for _, n := range lengths() {
		b := wantPut(api.Rec{Ver: 3, Val: string(text(n))})
		for _, more := range []int{1, 2, 31, 32, 96, 384, 1536, 2048, 65536} {
			checkNone(t, append(bytes.Clone(b), make([]byte, more)...), "noughts behind it")
			checkNone(t, append(bytes.Clone(b), text(more)...), "bytes behind it")
		}
		checkNone(t, append([]byte{0}, b...), "a nought ahead of it")
		checkNone(t, append(bytes.Clone(b), b...), "twice")
	}
}

func TestGetOfFewerThanNineBytes(t *testing.T) {
	for n := range 9 {
		for _, b := range [][]byte{text(n), make([]byte, n), bytes.Repeat([]byte{1}, n), within(3, 0, "")[:n], within(3, 1, "")[9-n:]} {
			checkNone(t, filled(b), "fewer than nine bytes within")
		}
	}
	checkGet(t, filled(within(3, 0, "")), api.Rec{Ver: 3})
	checkGet(t, filled(within(3, 1, "")), api.Rec{Ver: 3, Gone: true})
}

func TestGetOfEveryMark(t *testing.T) {
	for mark := range 256 {
		for _, val := range []string{"", "v", "\x00", "\x01", "a value"} {
			b := filled(within(3, byte(mark), val))
			switch {
			case mark == 0:
				checkGet(t, b, api.Rec{Ver: 3, Val: val})
			case mark == 1 && val == "":
				checkGet(t, b, api.Rec{Ver: 3, Gone: true})
			case mark == 1:
				checkNone(t, b, "Gone, with a value")
			default:
				checkNone(t, b, "neither Gone nor there")
			}
		}
	}
}

func TestGetOfNoVersion(t *testing.T) {
	for _, ver := range noVers() {
		for mark := range byte(2) {
			checkNone(t, filled(within(uint64(ver), mark, "")), "a Ver that may not be")
		}
		checkNone(t, filled(within(uint64(ver), 0, "a value")), "a Ver that may not be")
	}
	// The highest bit, and each other one above the versions, on such as may be.
	for _, ver := range vers() {
		for bit := 41; bit < 64; bit++ {
			checkNone(t, filled(within(uint64(ver)|1<<bit, 0, "a value")), "a Ver with a bit too high")
		}
	}
}

func TestGetOfTooLongAValue(t *testing.T) {
	for n := most + 1; n <= 2037; n++ {
		for _, val := range []string{string(text(n)), strings.Repeat("\x00", n)} {
			checkNone(t, filled(within(3, 0, val)), "a value of more than 1,000 bytes")
		}
		checkNone(t, filled(within(3, 1, string(text(n)))), "a value of more than 1,000 bytes, Gone")
	}
	for _, n := range []int{1, 2, 999, 1000} {
		checkNone(t, filled(within(3, 1, string(text(n)))), "Gone, with a value")
	}
}

// TestGetOfTurnedBits turns each bit of a record, and each byte to others.
func TestGetOfTurnedBits(t *testing.T) {
	for _, r := range []api.Rec{{Ver: 1}, {Ver: 1, Gone: true}, {Ver: greatest, Val: "v"}, {Ver: 0xabcdef, Val: string(text(21))}, {Ver: 5, Val: string(text(22))}, {Ver: 6, Val: string(text(1000))}} {
		b := wantPut(r)
		for i := range b {
			for bit := range 8 {
				b[i] ^= 1 << bit
				checkAny(t, b, "a bit turned")
				b[i] ^= 1 << bit
			}
		}
		checkGet(t, b, r)
	}
}

// TestGetTakesJustWhatPutGives sets each number that two bytes can tell over a record's bytes, and each byte in each place.
func TestGetTakesJustWhatPutGives(t *testing.T) {
	for _, r := range []api.Rec{{Ver: 1}, {Ver: greatest, Gone: true}, {Ver: 77, Val: string(text(40))}, {Ver: 77, Val: strings.Repeat("\x00", 400)}, {Ver: 9, Val: "v" + strings.Repeat("\x00", 999)}} {
		b := wantPut(r)
		for told := range 1 << 16 {
			b[0], b[1] = byte(told>>8), byte(told)
			checkAny(t, b, "another told length")
		}
		b = wantPut(r)
		for i := range 32 {
			old := b[i]
			for c := range 256 {
				b[i] = byte(c)
				checkAny(t, b, "another byte")
			}
			b[i] = old
		}
	}
}

// TestRecordsAreToldApart holds that no two of the records are put as the same bytes.
func TestRecordsAreToldApart(t *testing.T) {
	seen := map[string]api.Rec{}
	for _, r := range records() {
		b := string(mustPut(t, r))
		if other, ok := seen[b]; ok && other != r {
			t.Errorf("P11.1: Ver %d, %d bytes is put as Ver %d, %d bytes is", r.Ver, len(r.Val), other.Ver, len(other.Val))
		}
		seen[b] = r
	}
}

// spareRoom stands behind a list and tells who writes there, and who reads.
func spareRoom() []byte { return bytes.Repeat([]byte{0xa5}, 64) }

// turnAll writes over all of b, its spare room too.
func turnAll(b []byte) {
	b = b[:cap(b)]
	for i := range b {
		b[i] ^= 0xff
	}
}

func TestGetChangesAndKeepsNothing(t *testing.T) {
	for _, r := range records() {
		b := wantPut(r)
		size := len(b)
		long := append(bytes.Clone(b), spareRoom()...)
		got, err := record.Get(long[:size])
		if !bytes.Equal(long, append(b, spareRoom()...)) {
			t.Errorf("P0.3: Get changed %d bytes or their spare room", size)
		}
		turnAll(long)
		if got != r || err != api.OK {
			t.Errorf("P0.3: Get of %d bytes hangs on what stands behind them, or on what was written into them", size)
		}
		record.Get(long[:size])
		turnAll(long)
		checkGet(t, long[:size], r)
	}
}

func TestPutsAreNewMemory(t *testing.T) {
	for _, r := range records() {
		a, b := mustPut(t, r), mustPut(t, r)
		turnAll(a)
		if !bytes.Equal(b, wantPut(r)) {
			t.Errorf("P0.3: two answers of Put of %d bytes share memory", len(r.Val))
		}
		got, _ := record.Get(b)
		_ = append(b, spareRoom()...)
		turnAll(b)
		if got != r {
			t.Errorf("P0.3: what Get told of %d bytes hangs on them", len(r.Val))
		}
		checkPut(t, r)
	}
}

// TestOrderOfCallsTellsNothing asks for the same again behind other calls, wrong ones among them.
func TestOrderOfCallsTellsNothing(t *testing.T) {
	all, none := records(), noRecords()
	for i := len(all) - 1; i >= 0; i-- {
		record.Put(none[i%len(none)])
		checkPut(t, all[i])
		checkNone(t, wantPut(all[i])[1:], "without its first byte")
		checkGet(t, wantPut(all[i]), all[i])
	}
}

func FuzzPut(f *testing.F) {
	f.Add(int64(1), true, "")
	f.Add(int64(greatest), false, "a value")
	f.Add(int64(0), false, strings.Repeat("v", most+1))
	f.Fuzz(func(t *testing.T, ver int64, gone bool, val string) {
		r := api.Rec{Ver: ver, Gone: gone, Val: val}
		may := ver >= 1 && ver <= greatest && len(val) <= most && !(gone && val != "")
		if record.May(r) != may {
			t.Fatalf("P11.1: May of Ver %d, Gone %v, %d bytes: %v, want %v", ver, gone, len(val), !may, may)
		}
		if may {
			checkPut(t, r)
			checkGet(t, wantPut(r), r)
		} else if b, err := record.Put(r); b != nil || err != api.ErrForm {
			t.Errorf("P11.1: Put of Ver %d, Gone %v, %d bytes: %d bytes, error %d", ver, gone, len(val), len(b), err)
		}
	})
}

func FuzzGet(f *testing.F) {
	for _, r := range []api.Rec{{Ver: 1}, {Ver: greatest, Gone: true}, {Ver: 77, Val: string(text(40))}} {
		f.Add(wantPut(r))
	}
	f.Add([]byte(nil))
	f.Add(filled(within(math.MaxUint64, 0, "v")))
	f.Fuzz(func(t *testing.T, b []byte) {
		before := bytes.Clone(b)
		checkAny(t, b, "any bytes")
		if len(b) <= 2046 {
			checkAny(t, filled(b), "any bytes, filled up")
		}
		if !bytes.Equal(b, before) {
			t.Errorf("P0.3: Get changed %d bytes", len(b))
		}
	})
}
