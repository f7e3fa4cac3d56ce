// Package num: numbers as bytes: see doc/01-num.md.
package num

import (
	"indenture/api"
)

const (
	maxLen  = 10      // bytes of the longest number: 64 bits, seven a byte
	maxText = 1 << 20 // bytes of the longest text that GetText takes
	more    = 128     // stands in each byte of a number but the last one
)

// Put: see the chapter.
func Put(b []byte, n int64) []byte {
	return appendNumber(withRoom(b, maxLen), n)
}

// Get: see the chapter.
func Get(b []byte) (int64, int, api.Errno) {
	var u uint64
	for i, c := range b {
		// Nine bytes hold 63 bits: the tenth has room for one, and none follows it. So the loop ends here at the latest.
		if i == maxLen-1 && c > 1 {
			return 0, 0, api.ErrForm
		}
		u |= uint64(c%more) << (7 * i)
		if c >= more {
			continue
		}
		if c == 0 && i > 0 {
			return 0, 0, api.ErrForm
		}
		return unfold(u), i + 1, api.OK
	}
	return 0, 0, api.ErrMore
}

// PutText: see the chapter. It takes a text of any length: only GetText has a bound.
func PutText(b []byte, s string) []byte {
	out := appendNumber(withRoom(b, maxLen+len(s)), int64(len(s)))
	return append(out, s...)
}

// GetText: see the chapter. The length is judged ahead of what follows it, so its error counts first.
func GetText(b []byte) (string, int, api.Errno) {
	size, k, err := Get(b)
	if err != api.OK {
		return "", 0, err
	}
	if size < 0 || size > maxText {
		return "", 0, api.ErrForm
	}
	end := k + int(size)
	if end > len(b) {
		return "", 0, api.ErrMore
	}
	return string(b[k:end]), end, api.OK
}

// Four: see the chapter.
func Four(n uint32) []byte {
	return []byte{byte(n >> 24), byte(n >> 16), byte(n >> 8), byte(n)}
}

// withRoom copies b: to append to b itself would write into the caller's spare room.
func withRoom(b []byte, room int) []byte {
	out := make([]byte, len(b), len(b)+room)
	copy(out, b)
	return out
}

// appendNumber writes into out's spare room: out is the package's own, never a caller's.
func appendNumber(out []byte, n int64) []byte {
	u := fold(n)
	for u >= more {
		out = append(out, byte(u%more)+more)
		u /= more
	}
	return append(out, byte(u))
}

// fold lays the numbers below 0 between the others, so that small ones of either sign are short.
func fold(n int64) uint64 {
	if n < 0 {
		// -2n - 1 as 2(-n - 1) + 1: -n of the least int64 would wrap.
		return 2*uint64(-(n+1)) + 1
	}
	return 2 * uint64(n)
}

// unfold halves first: -(u + 1) / 2 would wrap at the greatest u.
func unfold(u uint64) int64 {
	half := int64(u / 2)
	if u%2 == 1 {
		return -half - 1
	}
	return half
}
