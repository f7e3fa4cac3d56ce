package pad_test

import (
	"bytes"
	"math"
	"sync"
	"testing"

	"indenture/api"
	"indenture/pad"
)

// greatest is the length of the longest list that can be padded.
const greatest = 2046

// text is n bytes, none of them nought: so a nought in what is padded is one of the filling or of the length.
func text(n int) []byte {
	b := make([]byte, n)
	x := uint32(1)
	for i := range b {
		x = x*1664525 + 1013904223
		b[i] = byte(x>>24) | 1
	}
	return b
}

// lengths go about the ends of the four lengths, and of what one byte can tell.
func lengths() []int {
	return []int{0, 1, 2, 3, 28, 29, 30, 31, 32, 33, 100, 125, 126, 127, 128, 129, 253, 254, 255, 256, 257, 509, 510, 511, 512, 513, 767, 768, 1000, 1009, 2044, 2045, 2046}
}

// tooLong are lengths of which there is no size, those among them too whose lowest sixteen bits tell a length that has one.
func tooLong() []int {
	return []int{2047, 2048, 2049, 4096, 8190, 8192, 32767, 32768, 65535, 65536, 65537, 65536 + 30, 65536 + greatest, 1 << 17, 1<<20 + 5}
}

// wantSize says the ends out, where the program reckons them.
func wantSize(n int) int {
	switch {
	case n < 0:
		return 0
	case n <= 30:
		return 32
	case n <= 126:
		return 128
	case n <= 510:
		return 512
	case n <= 2046:
		return 2048
	}
	return 0
}

// wantPad is the chapter's words, a byte behind the other.
func wantPad(b []byte) []byte {
	out := []byte{byte(len(b) / 256), byte(len(b) % 256)}
	out = append(out, b...)
	for len(out) < wantSize(len(b)) {
		out = append(out, 0)
	}
	return out
}

func mustPad(t testing.TB, b []byte) []byte {
	t.Helper()
	p, err := pad.Pad(b)
	if err != api.OK {
		t.Fatalf("P10.1: Pad of %d bytes: error %d", len(b), err)
	}
	return p
}

func checkPad(t testing.TB, b []byte) {
	t.Helper()
	if p, want := mustPad(t, b), wantPad(b); !bytes.Equal(p, want) {
		t.Errorf("P10.1: Pad of %d bytes: %x, want %x", len(b), p, want)
	}
}

func checkUnpad(t testing.TB, p, want []byte) {
	t.Helper()
	if got, err := pad.Unpad(p); err != api.OK || !bytes.Equal(got, want) {
		t.Errorf("P10.1: Unpad of %d bytes: %x, error %d, want %x", len(p), got, err, want)
	}
}

func checkNone(t testing.TB, p []byte, what string, n int) {
	t.Helper()
	if got, err := pad.Unpad(p); got != nil || err != api.ErrForm {
		t.Errorf("P10.1: Unpad of %d bytes, "+what+" (%d): %d bytes, error %d, want nil, ErrForm", len(p), n, len(got), err)
	}
}

func TestSizeOfEveryNumber(t *testing.T) {
	for n := -70000; n <= 140000; n++ {
		if got := pad.Size(n); got != wantSize(n) {
			t.Errorf("P10.1: Size of %d: %d, want %d", n, got, wantSize(n))
		}
	}
}

func TestSizeWrittenOut(t *testing.T) {
	for _, c := range [][2]int{
		{-1, 0}, {0, 32}, {1, 32}, {29, 32}, {30, 32}, {31, 128}, {32, 128}, {125, 128}, {126, 128}, {127, 512}, {128, 512},
		{509, 512}, {510, 512}, {511, 2048}, {512, 2048}, {2045, 2048}, {2046, 2048}, {2047, 0}, {2048, 0}, {2049, 0},
	} {
		if got := pad.Size(c[0]); got != c[1] {
			t.Errorf("P10.1: Size of %d: %d, want %d", c[0], got, c[1])
		}
	}
}

// TestSizeOfHugeNumbers goes about the powers of two: a sum that wraps, or a number cut to fewer bits, would be small again.
func TestSizeOfHugeNumbers(t *testing.T) {
	huge := []int{math.MaxInt, math.MaxInt - 1, math.MaxInt - 2, math.MaxInt - 3, math.MinInt, math.MinInt + 1, math.MinInt + 2, math.MinInt + 3}
	for bits := 12; bits < 63; bits++ {
		for _, more := range []int{-3, -2, -1, 0, 1, 2, 30, 31, greatest} {
			huge = append(huge, 1<<bits+more, -(1<<bits)+more)
		}
	}
	for _, n := range huge {
		if got := pad.Size(n); got != 0 {
			t.Errorf("P10.1: Size of %d: %d, want 0", n, got)
		}
	}
}

// TestPadWrittenOut holds Pad against bytes that are told by their places.
func TestPadWrittenOut(t *testing.T) {
	for _, c := range []struct {
		n, size     int
		first, next byte
	}{
		{0, 32, 0, 0}, {1, 32, 0, 1}, {30, 32, 0, 30}, {31, 128, 0, 31}, {126, 128, 0, 126}, {127, 512, 0, 127}, {255, 512, 0, 255}, {256, 512, 1, 0},
		{510, 512, 1, 254}, {511, 2048, 1, 255}, {512, 2048, 2, 0}, {2045, 2048, 7, 253}, {2046, 2048, 7, 254},
	} {
		p := mustPad(t, text(c.n))
		if len(p) != c.size {
			t.Fatalf("P10.1: Pad of %d bytes: %d bytes, want %d", c.n, len(p), c.size)
		}
		if p[0] != c.first || p[1] != c.next {
			t.Errorf("P10.1: Pad of %d bytes begins with %d, %d, want %d, %d", c.n, p[0], p[1], c.first, c.next)
		}
		if !bytes.Equal(p[2:2+c.n], text(c.n)) {
			t.Errorf("P10.1: Pad of %d bytes: they are not there", c.n)
		}
		if !bytes.Equal(p[2+c.n:], make([]byte, c.size-2-c.n)) {
			t.Errorf("P10.1: Pad of %d bytes: not filled with noughts", c.n)
		}
	}
}

func TestPadAndUnpadOfEveryLength(t *testing.T) {
	for n := range greatest + 1 {
		for _, b := range [][]byte{text(n), make([]byte, n), bytes.Repeat([]byte{0xff}, n)} {
			checkPad(t, b)
			checkUnpad(t, wantPad(b), b)
			checkUnpad(t, mustPad(t, b), b)
		}
	}
}

func TestPadOfEveryByte(t *testing.T) {
	for c := range 256 {
		b := []byte{byte(c)}
		checkPad(t, b)
		checkUnpad(t, wantPad(b), b)
	}
}

func TestPadOfNothing(t *testing.T) {
	for _, b := range [][]byte{nil, {}, text(9)[:0]} {
		p := mustPad(t, b)
		if !bytes.Equal(p, make([]byte, 32)) {
			t.Errorf("P10.1, P0.4: Pad of nothing: %x", p)
		}
		checkUnpad(t, p, nil)
	}
}

// TestPadOfNoughts holds that the length alone parts noughts that were given from those of the filling.
func TestPadOfNoughts(t *testing.T) {
	seen := map[string]int{}
	for n := range greatest + 1 {
		p := string(mustPad(t, make([]byte, n)))
		if other, ok := seen[p]; ok {
			t.Errorf("P10.1: %d noughts are padded as %d are", n, other)
		}
		seen[p] = n
	}
}

func TestPadTooLong(t *testing.T) {
	for _, n := range tooLong() {
		for _, b := range [][]byte{text(n), make([]byte, n)} {
			if p, err := pad.Pad(b); p != nil || err != api.ErrLarge {
				t.Errorf("P10.1: Pad of %d bytes: %d bytes, error %d, want nil, ErrLarge", n, len(p), err)
			}
		}
	}
}

func TestUnpadTooShort(t *testing.T) {
	checkNone(t, nil, "nil", 0)
	checkNone(t, []byte{}, "empty", 0)
	checkNone(t, make([]byte, 64)[:0], "empty, with spare room", 0)
	for c := range 256 {
		checkNone(t, []byte{byte(c)}, "one byte", c)
		checkNone(t, []byte{0, byte(c)}, "the length alone", c)
		checkNone(t, append(make([]byte, 1, 64), byte(c))[:1], "one byte, with spare room", c)
	}
}

// TestUnpadOfEveryLength takes lists of noughts: those of one of the four lengths alone are padded.
func TestUnpadOfEveryLength(t *testing.T) {
	for size := range 9000 {
		for _, told := range []int{0, 1, size - 2, size} {
			if told < 0 {
				continue
			}
			b := make([]byte, size)
			if size >= 2 {
				b[0], b[1] = byte(told>>8), byte(told)
			}
			if size >= 2 && wantSize(told) == size {
				checkUnpad(t, b, make([]byte, told))
			} else {
				checkNone(t, b, "noughts, but for the told length", told)
			}
		}
	}
	for _, size := range []int{65534, 65536, 65537, 65538, 1 << 17, 1 << 20} {
		checkNone(t, make([]byte, size), "noughts", 0)
		checkNone(t, bytes.Repeat([]byte{0xff}, size), "the greatest told length", 65535)
	}
}

// TestEveryToldLength sets each number that two bytes can tell over noughts of each of the four lengths, and of those beside them.
func TestEveryToldLength(t *testing.T) {
	for _, size := range []int{2, 3, 31, 32, 33, 127, 128, 129, 511, 512, 513, 2047, 2048, 2049, 8192} {
		b := make([]byte, size)
		for told := range 1 << 16 {
			b[0], b[1] = byte(told>>8), byte(told)
			if wantSize(told) == size {
				checkUnpad(t, b, make([]byte, told))
			} else {
				checkNone(t, b, "another told length", told)
			}
		}
	}
}

// TestLongerThanNeeded lays each text into each of the four lengths that is not its least.
func TestLongerThanNeeded(t *testing.T) {
	for n := range 511 {
		for _, size := range []int{32, 128, 512, 2048} {
			if size <= wantSize(n) {
				continue
			}
			b := make([]byte, size)
			copy(b, wantPad(text(n)))
			checkNone(t, b, "longer than need be, of a text", n)
		}
	}
}

// TestToldMoreThanThere tells lengths of which fewer bytes are there.
func TestToldMoreThanThere(t *testing.T) {
	for _, size := range []int{2, 3, 32, 128, 512, 2048} {
		for _, told := range []int{size - 1, size, size + 1, 4 * size, 2047, 2048, 32767, 32768, 65535} {
			b := text(size)
			b[0], b[1] = byte(told>>8), byte(told)
			checkNone(t, b, "a told length beyond the end", told)
		}
	}
}

// TestTurnedFilling turns each byte behind the text's end, one at a time, and each of its bits.
func TestTurnedFilling(t *testing.T) {
	for _, n := range lengths() {
		p := wantPad(text(n))
		for at := 2 + n; at < len(p); at++ {
			for _, c := range []byte{1, 2, 4, 8, 16, 32, 64, 128, 255} {
				p[at] = c
				checkNone(t, p, "a byte of the filling turned", at)
			}
			p[at] = 0
		}
		checkUnpad(t, p, text(n))
	}
}

// TestTurnedTwice turns bytes of the filling whose sum, or whose difference, is nought.
func TestTurnedTwice(t *testing.T) {
	for _, n := range []int{0, 1, 27, 28, 31, 100, 127, 511, 2044} {
		p := wantPad(text(n))
		last := len(p) - 1
		p[last-1], p[last] = 1, 255
		checkNone(t, p, "two bytes turned that make 256", n)
		p[last-1], p[last] = 77, 77
		checkNone(t, p, "two bytes turned the same way", n)
	}
}

// TestTurnedText holds that the bytes within are free: whatever they are turned to is what is told.
func TestTurnedText(t *testing.T) {
	for _, n := range lengths() {
		p, b := wantPad(text(n)), text(n)
		for at := range n {
			p[2+at] ^= 0xff
			b[at] ^= 0xff
			checkUnpad(t, p, b)
		}
	}
}

func TestCutOff(t *testing.T) {
	for _, n := range lengths() {
		p := wantPad(text(n))
		for end := range len(p) {
			checkNone(t, p[:end], "cut off, of a text", n)
			checkNone(t, bytes.Clone(p[:end]), "cut off, of a text", n)
		}
	}
}

func TestCutOffAhead(t *testing.T) {
	for _, n := range lengths() {
		p := wantPad(text(n))
		checkNone(t, p[1:], "without its first byte, of a text", n)
		checkNone(t, p[2:], "without its length, of a text", n)
	}
}

func TestMadeLonger(t *testing.T) {
	for _, n := range lengths() {
		p := wantPad(text(n))
		for _, more := range []int{1, 2, 3, 31, 32, 96, 384, 1536, 2048, 65536} {
			checkNone(t, append(bytes.Clone(p), make([]byte, more)...), "noughts behind it, of a text", n)
			checkNone(t, append(bytes.Clone(p), text(more)...), "bytes behind it, of a text", n)
		}
		checkNone(t, append([]byte{0}, p...), "a nought ahead of it, of a text", n)
		checkNone(t, append(bytes.Clone(p), p...), "twice, of a text", n)
	}
}

// spareRoom stands behind a list and tells who writes there, and who reads.
func spareRoom() []byte { return bytes.Repeat([]byte{0xa5}, 3000) }

func TestWhatIsHandedInIsNotChanged(t *testing.T) {
	for _, n := range append(lengths(), tooLong()...) {
		long := append(text(n), spareRoom()...)
		pad.Pad(long[:n])
		pad.Unpad(long[:n])
		if !bytes.Equal(long, append(text(n), spareRoom()...)) {
			t.Errorf("P0.3: Pad or Unpad changed a list of %d bytes or its spare room", n)
		}
	}
	for _, n := range lengths() {
		p := wantPad(text(n))
		long := append(bytes.Clone(p), spareRoom()...)
		pad.Unpad(long[:len(p)])
		if !bytes.Equal(long, append(p, spareRoom()...)) {
			t.Errorf("P0.3: Unpad changed a padded text of %d bytes or its spare room", n)
		}
	}
}

// TestSpareRoomTellsNothing holds that what stands behind a list has no part in the answer.
func TestSpareRoomTellsNothing(t *testing.T) {
	for _, n := range lengths() {
		long := append(text(n), spareRoom()...)
		checkPad(t, long[:n])
		p := wantPad(text(n))
		size := len(p)
		checkUnpad(t, append(p, spareRoom()...)[:size], text(n))
	}
}

func turnAll(b []byte) {
	b = b[:cap(b)]
	for i := range b {
		b[i] ^= 0xff
	}
}

// TestPadSharesNothing writes into what was handed in and into what was told, their spare room too.
func TestPadSharesNothing(t *testing.T) {
	for _, n := range lengths() {
		given := append(text(n), spareRoom()...)[:n]
		a, b := mustPad(t, given), mustPad(t, given)
		turnAll(a)
		if !bytes.Equal(given, text(n)) || !bytes.Equal(b, wantPad(text(n))) {
			t.Errorf("P0.3: what Pad told of %d bytes is not the caller's own", n)
		}
		turnAll(given)
		if !bytes.Equal(b, wantPad(text(n))) {
			t.Errorf("P0.3: Pad kept the %d bytes that it was given", n)
		}
		checkPad(t, text(n))
	}
}

// TestUnpadSharesNothing is the same of Unpad.
func TestUnpadSharesNothing(t *testing.T) {
	for _, n := range lengths() {
		given := wantPad(text(n))
		size := len(given)
		given = append(given, spareRoom()...)[:size]
		a, _ := pad.Unpad(given)
		b, _ := pad.Unpad(given)
		turnAll(a)
		if !bytes.Equal(given[:size+3000], append(wantPad(text(n)), spareRoom()...)) || !bytes.Equal(b, text(n)) {
			t.Errorf("P0.3: what Unpad told, %d bytes, is not the caller's own", n)
		}
		turnAll(given)
		if !bytes.Equal(b, text(n)) {
			t.Errorf("P0.3: Unpad kept what it was given, %d bytes padded", n)
		}
		checkUnpad(t, wantPad(text(n)), text(n))
	}
}

// TestAppendToAnswers has two answers grown: neither grows into the other, nor into what was handed in.
func TestAppendToAnswers(t *testing.T) {
	for _, n := range lengths() {
		p := mustPad(t, text(n))
		q := mustPad(t, text(n))
		u, _ := pad.Unpad(p)
		_ = append(u, spareRoom()...)
		_ = append(q, spareRoom()...)
		if !bytes.Equal(p, wantPad(text(n))) || !bytes.Equal(u, text(n)) {
			t.Errorf("P0.3: what was told of %d bytes grew into something else", n)
		}
	}
}

// TestOrderOfCallsTellsNothing asks for the same again behind other calls, wrong ones among them.
func TestOrderOfCallsTellsNothing(t *testing.T) {
	all := lengths()
	for i := len(all) - 1; i >= 0; i-- {
		checkPad(t, bytes.Repeat([]byte{0xff}, greatest))
		pad.Pad(make([]byte, greatest+1))
		checkPad(t, text(all[i]))
		checkNone(t, wantPad(text(all[i]))[1:], "without its first byte, of a text", all[i])
		checkUnpad(t, wantPad(text(all[i])), text(all[i]))
	}
}

// TestSideBySide has one list asked for from several sides at the same time: it is only read.
func TestSideBySide(t *testing.T) {
	b := text(500)
	p := wantPad(b)
	var padded, back [8][]byte
	var all sync.WaitGroup
	for i := range padded {
		all.Go(func() {
			for range 50 {
				padded[i], _ = pad.Pad(b)
				back[i], _ = pad.Unpad(p)
			}
		})
	}
	all.Wait()
	for i := range padded {
		if !bytes.Equal(padded[i], p) || !bytes.Equal(back[i], b) {
			t.Errorf("P0.5: other bytes side by side")
		}
	}
}

func FuzzPad(f *testing.F) {
	for _, n := range []int{0, 1, 30, 31, 126, 127, 510, 511, 2046, 2047} {
		f.Add(text(n))
	}
	f.Fuzz(func(t *testing.T, b []byte) {
		before := bytes.Clone(b)
		if wantSize(len(b)) == 0 {
			if p, err := pad.Pad(b); p != nil || err != api.ErrLarge {
				t.Errorf("P10.1: Pad of %d bytes: %d bytes, error %d, want nil, ErrLarge", len(b), len(p), err)
			}
		} else {
			checkPad(t, b)
			checkUnpad(t, mustPad(t, b), b)
		}
		if !bytes.Equal(b, before) {
			t.Errorf("P0.3: Pad changed a list of %d bytes", len(b))
		}
	})
}

// isPadded says of any list whether it is just what Pad gives, and of what.
func isPadded(p []byte) ([]byte, bool) {
	if len(p) < 2 {
		return nil, false
	}
	told := int(p[0])*256 + int(p[1])
	if told > len(p)-2 || wantSize(told) == 0 {
		return nil, false
	}
	b := p[2 : 2+told]
	return b, bytes.Equal(p, wantPad(b))
}

func FuzzUnpad(f *testing.F) {
	for _, n := range []int{0, 1, 30, 31, 126, 127, 510, 511, 2046} {
		f.Add(wantPad(text(n)))
	}
	f.Fuzz(func(t *testing.T, p []byte) {
		before := bytes.Clone(p)
		if b, ok := isPadded(p); ok {
			checkUnpad(t, p, b)
		} else {
			checkNone(t, p, "any bytes", 0)
		}
		if !bytes.Equal(p, before) {
			t.Errorf("P0.3: Unpad changed a list of %d bytes", len(p))
		}
	})
}
