package num_test

import (
	"bytes"
	"encoding/binary"
	"math"
	"strings"
	"testing"

	"indenture/api"
	"indenture/num"
)

// numbers holds the edges of every length a number can have, of both signs.
func numbers() []int64 {
	l := []int64{0, 1, -1, 2, -2, math.MaxInt64, math.MinInt64, math.MaxInt64 - 1, math.MinInt64 + 1}
	for shift := range 63 {
		x := int64(1) << shift
		l = append(l, x-1, x, x+1, -x-1, -x, -x+1)
	}
	x := uint64(1)
	for range 2000 {
		x = x*6364136223846793005 + 1442695040888963407
		l = append(l, int64(x), int64(x)>>(x%64))
	}
	return l
}

// spare answers s with spare room behind it that is filled with 0xa5.
func spare(s string, room int) []byte {
	whole := append([]byte(s), bytes.Repeat([]byte{0xa5}, room)...)
	return whole[:len(s)]
}

// spoil writes over all of b, its spare room too.
func spoil(b []byte) {
	b = b[:cap(b)]
	for i := range b {
		b[i] ^= 0xff
	}
}

func TestPutKnown(t *testing.T) {
	for _, c := range []struct {
		n    int64
		want string
	}{
		{0, "\x00"}, {-1, "\x01"}, {1, "\x02"}, {-2, "\x03"},
		{63, "\x7e"}, {-64, "\x7f"}, {64, "\x80\x01"}, {-65, "\x81\x01"},
		{8191, "\xfe\x7f"}, {-8192, "\xff\x7f"}, {8192, "\x80\x80\x01"}, {-8193, "\x81\x80\x01"},
		{1 << 20, "\x80\x80\x80\x01"}, {150, "\xac\x02"},
		{1<<62 - 1, "\xfe\xff\xff\xff\xff\xff\xff\xff\x7f"},
		{-1 << 62, "\xff\xff\xff\xff\xff\xff\xff\xff\x7f"},
		{1 << 62, "\x80\x80\x80\x80\x80\x80\x80\x80\x80\x01"},
		{-1<<62 - 1, "\x81\x80\x80\x80\x80\x80\x80\x80\x80\x01"},
		{math.MaxInt64, "\xfe\xff\xff\xff\xff\xff\xff\xff\xff\x01"},
		{math.MinInt64, "\xff\xff\xff\xff\xff\xff\xff\xff\xff\x01"},
	} {
		if got := num.Put(nil, c.n); string(got) != c.want {
			t.Errorf("P1.1: Put(nil, %d) = %x, want %x", c.n, got, c.want)
		}
		n, k, err := num.Get([]byte(c.want))
		if n != c.n || k != len(c.want) || err != api.OK {
			t.Errorf("P1.1: Get(%x) = %d, %d, %v, want %d", c.want, n, k, err, c.n)
		}
	}
}

func TestNumberRound(t *testing.T) {
	for _, n := range numbers() {
		want := string(binary.AppendVarint(nil, n))
		for _, front := range []string{"", "x", "\x80\x80", strings.Repeat("front", 50)} {
			got := num.Put([]byte(front), n)
			if string(got) != front+want {
				t.Fatalf("P1.1: Put(%q, %d) = %x, want %x behind it", front, n, got, want)
			}
		}
		for _, rest := range []string{"", "\x00", "\x80", "\xff\xff\xff\xff\xff\xff\xff\xff\xff\xff\xff"} {
			x, k, err := num.Get([]byte(want + rest))
			if x != n || k != len(want) || err != api.OK {
				t.Fatalf("P1.1: Get(%x %x) = %d, %d, %v, want %d", want, rest, x, k, err, n)
			}
		}
		for k := range len(want) {
			wantGet(t, want[:k], api.ErrMore)
		}
	}
}

// wantGet asks that Get refuses s with the error, and answers nothing beside it.
func wantGet(t *testing.T, s string, want api.Errno) {
	t.Helper()
	if n, k, err := num.Get([]byte(s)); n != 0 || k != 0 || err != want {
		t.Errorf("P1.1: Get(%x) = %d, %d, %v, want error %v", s, n, k, err, want)
	}
}

func TestGetMore(t *testing.T) {
	if n, k, err := num.Get(nil); n != 0 || k != 0 || err != api.ErrMore {
		t.Errorf("P0.4: Get(nil) = %d, %d, %v", n, k, err)
	}
	for size := range 10 {
		for _, c := range []string{"\x80", "\x81", "\xff"} {
			wantGet(t, strings.Repeat(c, size), api.ErrMore)
		}
	}
}

func TestGetLongerThanNeeded(t *testing.T) {
	for size := 1; size < 10; size++ {
		for _, c := range []string{"\x80", "\x81", "\xff"} {
			wantGet(t, strings.Repeat(c, size)+"\x00", api.ErrForm)
			wantGet(t, strings.Repeat(c, size)+"\x00\x01", api.ErrForm)
		}
	}
}

func TestGetTenthByte(t *testing.T) {
	nine := strings.Repeat("\x80", 9)
	if n, k, err := num.Get([]byte(nine + "\x01")); n != 1<<62 || k != 10 || err != api.OK {
		t.Errorf("P1.1: a tenth byte of 1: %d, %d, %v", n, k, err)
	}
	wantGet(t, nine+"\x00", api.ErrForm)
	for c := 2; c < 256; c++ {
		tenth := string([]byte{byte(c)})
		wantGet(t, nine+tenth, api.ErrForm)
		wantGet(t, nine+tenth+"\x00", api.ErrForm)
		wantGet(t, strings.Repeat("\xff", 9)+tenth+strings.Repeat("\xff", 300), api.ErrForm)
	}
}

// TestGetEvery holds that of all that is at most three bytes long just what Put writes is taken.
func TestGetEvery(t *testing.T) {
	for x := range 1 << 24 {
		s := []byte{byte(x), byte(x >> 8), byte(x >> 16)}
		n, k, err := num.Get(s)
		switch err {
		case api.OK:
			if k < 1 || k > 3 || !bytes.Equal(num.Put(nil, n), s[:k]) {
				t.Fatalf("P1.1: Get(%x) = %d, %d", s, n, k)
			}
		case api.ErrForm:
			if n != 0 || k != 0 || s[0] < 128 || s[1] != 0 && (s[1] < 128 || s[2] != 0) {
				t.Fatalf("P1.1: Get(%x) = %d, %d, ErrForm", s, n, k)
			}
		case api.ErrMore:
			if n != 0 || k != 0 || s[0] < 128 || s[1] < 128 || s[2] < 128 {
				t.Fatalf("P1.1: Get(%x) = %d, %d, ErrMore", s, n, k)
			}
		default:
			t.Fatalf("P1.1: Get(%x): error %v", s, err)
		}
	}
}

func TestTextRound(t *testing.T) {
	for _, size := range []int{0, 1, 2, 63, 64, 65, 8191, 8192, 1<<20 - 1, 1 << 20} {
		s := strings.Repeat("\x00\xffé", size/4+1)[:size]
		want := string(binary.AppendVarint(nil, int64(size))) + s
		for _, front := range []string{"", "front"} {
			if got := num.PutText([]byte(front), s); string(got) != front+want {
				t.Errorf("P1.1: PutText(%q, %d bytes): %d bytes, other than wanted", front, size, len(got))
			}
		}
		for _, rest := range []string{"", "\x00", "rest"} {
			got, k, err := num.GetText([]byte(want + rest))
			if got != s || k != len(want) || err != api.OK {
				t.Errorf("P1.1: GetText of %d bytes and %q: %d bytes, %d, %v", size, rest, len(got), k, err)
			}
		}
	}
	if got := num.PutText(nil, "abc"); string(got) != "\x06abc" {
		t.Errorf("P1.1: PutText(nil, abc) = %x", got)
	}
	if got := num.PutText(nil, ""); string(got) != "\x00" {
		t.Errorf("P1.1: PutText(nil, no text) = %x", got)
	}
}

// wantText asks that GetText refuses s with the error, and answers nothing beside it.
func wantText(t *testing.T, s string, want api.Errno) {
	t.Helper()
	if x, k, err := num.GetText([]byte(s)); x != "" || k != 0 || err != want {
		t.Errorf("P1.1: GetText(%d bytes, %.16x) = %d bytes, %d, %v, want error %v", len(s), s, len(x), k, err, want)
	}
}

func TestGetTextMore(t *testing.T) {
	if x, k, err := num.GetText(nil); x != "" || k != 0 || err != api.ErrMore {
		t.Errorf("P0.4: GetText(nil) = %q, %d, %v", x, k, err)
	}
	for _, size := range []int{1, 3, 64, 300} {
		whole := string(num.PutText(nil, strings.Repeat("x", size)))
		for k := range len(whole) {
			wantText(t, whole[:k], api.ErrMore)
		}
	}
	greatest := string(num.PutText(nil, strings.Repeat("x", 1<<20)))
	wantText(t, greatest[:4], api.ErrMore)
	wantText(t, greatest[:len(greatest)-1], api.ErrMore)
	wantText(t, strings.Repeat("\xff", 9), api.ErrMore)
}

func TestGetTextForm(t *testing.T) {
	lengths := []int64{-1, -2, -3, -64, -65, -1 << 20, math.MinInt64, 1<<20 + 1, 1 << 21, 1 << 31, 1 << 32, 1<<32 + 1, 1 << 62, math.MaxInt64}
	for _, n := range lengths {
		length := string(num.Put(nil, n))
		wantText(t, length, api.ErrForm)
		wantText(t, length+"abc", api.ErrForm)
		wantText(t, length+strings.Repeat("x", 1<<20+10), api.ErrForm)
	}
	for _, s := range []string{
		"\x80\x00", "\x86\x00abc", "\x86\x80\x00abc",
		strings.Repeat("\x80", 9) + "\x02",
		strings.Repeat("\x80", 9) + "\x80",
		strings.Repeat("\xff", 10),
	} {
		wantText(t, s, api.ErrForm)
	}
	// PutText has no bound of its own: GetText refuses what is longer.
	wantText(t, string(num.PutText(nil, strings.Repeat("x", 1<<20+1))), api.ErrForm)
}

func TestFour(t *testing.T) {
	for n, want := range map[uint32]string{
		0: "\x00\x00\x00\x00", 1: "\x00\x00\x00\x01", 255: "\x00\x00\x00\xff", 256: "\x00\x00\x01\x00",
		0x01020304: "\x01\x02\x03\x04", 0xfffefdfc: "\xff\xfe\xfd\xfc",
		1 << 31: "\x80\x00\x00\x00", math.MaxUint32: "\xff\xff\xff\xff",
	} {
		if got := num.Four(n); string(got) != want {
			t.Errorf("P1.1: Four(%d) = %x, want %x", n, got, want)
		}
	}
	a, b := num.Four(7), num.Four(7)
	spoil(a)
	if c := num.Four(7); string(b) != "\x00\x00\x00\x07" || string(c) != "\x00\x00\x00\x07" {
		t.Errorf("P0.3: Four shares its answers: %x, %x", b, c)
	}
}

// puts are the calls that write behind a list, each with what it writes.
func puts() map[string]func([]byte) []byte {
	return map[string]func([]byte) []byte{
		"\x0e":                         func(b []byte) []byte { return num.Put(b, 7) },
		string(num.Put(nil, -1<<63)):   func(b []byte) []byte { return num.Put(b, math.MinInt64) },
		"\x00":                         func(b []byte) []byte { return num.PutText(b, "") },
		"\x06abc":                      func(b []byte) []byte { return num.PutText(b, "abc") },
		string(num.PutText(nil, long)): func(b []byte) []byte { return num.PutText(b, long) },
	}
}

const long = "a text that is longer than what most lists have room for"

func TestPutKeepsNothing(t *testing.T) {
	for want, put := range puts() {
		for _, front := range []string{"", "x", "front"} {
			for _, room := range []int{0, 1, 2, 100} {
				b := spare(front, room)
				before := bytes.Clone(b[:cap(b)])
				first, second := put(b), put(b)
				if !bytes.Equal(b[:cap(b)], before) {
					t.Fatalf("P0.3: a list of %q with room %d was changed: %x", front, room, b[:cap(b)])
				}
				spoil(first)
				if !bytes.Equal(b[:cap(b)], before) || string(second) != front+want {
					t.Fatalf("P0.3: an answer shares memory with the list %q or with another answer", front)
				}
				spoil(b)
				if string(second) != front+want {
					t.Fatalf("P0.3: an answer hangs on the list %q that was handed in", front)
				}
			}
		}
		if !bytes.Equal(put(nil), put([]byte{})) || string(put(nil)) != want {
			t.Errorf("P0.4: nil and empty: %x, %x", put(nil), put([]byte{}))
		}
	}
}

func TestGetKeepsNothing(t *testing.T) {
	b := spare("\x06abc", 20)
	before := bytes.Clone(b[:cap(b)])
	s, k, err := num.GetText(b)
	n, _, _ := num.Get(b)
	if !bytes.Equal(b[:cap(b)], before) {
		t.Errorf("P0.3: the list was changed: %x", b[:cap(b)])
	}
	spoil(b)
	if s != "abc" || k != 4 || err != api.OK || n != 3 {
		t.Errorf("P0.3: the answer hangs on the list that was handed in: %q, %d, %v, %d", s, k, err, n)
	}
}

// TestSpareRoomIsNotRead holds that what stands in a list's spare room completes neither a number nor a text.
func TestSpareRoomIsNotRead(t *testing.T) {
	whole := []byte("\x80\x01")
	if n, k, err := num.Get(whole[:1]); n != 0 || k != 0 || err != api.ErrMore {
		t.Errorf("P1.1: Get read beyond the list: %d, %d, %v", n, k, err)
	}
	whole = []byte("\x06abc")
	if s, k, err := num.GetText(whole[:3]); s != "" || k != 0 || err != api.ErrMore {
		t.Errorf("P1.1: GetText read beyond the list: %q, %d, %v", s, k, err)
	}
}

func TestSameAgain(t *testing.T) {
	for _, n := range []int64{0, -1, 300, math.MinInt64} {
		if a, b := num.Put(nil, n), num.Put(nil, n); !bytes.Equal(a, b) {
			t.Errorf("P0.5: Put(nil, %d) = %x, then %x", n, a, b)
		}
	}
}

func FuzzGet(f *testing.F) {
	for _, s := range []string{"", "\x00", "\x80", "\x80\x00", "\x06abc", "\xff\xff\xff\xff\xff\xff\xff\xff\xff\x01"} {
		f.Add([]byte(s))
	}
	f.Fuzz(func(t *testing.T, b []byte) {
		n, k, err := num.Get(b)
		if err == api.OK && !bytes.Equal(num.Put(nil, n), b[:k]) {
			t.Errorf("P1.1: Get(%x) = %d, %d", b, n, k)
		}
		s, k, err := num.GetText(b)
		if err == api.OK && !bytes.Equal(num.PutText(nil, s), b[:k]) {
			t.Errorf("P1.1: GetText(%x) = %q, %d", b, s, k)
		}
	})
}
