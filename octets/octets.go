// Package octets is layer 1: it encodes integers and strings as bytes, in exactly one way, and decodes them (see shared/doc/01-octets.md).
package octets

import (
	"math/bits"
	"strings"

	"sigil/api"
)

// mostBytes is how many bytes api.MaxInt needs.
const mostBytes = 7

// Int encodes n as the number of its bytes and these bytes, as few as possible.
func Int(n int) (string, api.Errno) {
	if n < 0 || n > api.MaxInt {
		return "", api.ErrOver
	}
	width := (bits.Len64(uint64(n)) + 7) / 8
	return Fixed(uint64(width), 1) + Fixed(uint64(n), width), api.OK
}

// ReadInt decodes the number at an offset of s, and returns it with the offset after it.
func ReadInt(s string, at int) (int, int, api.Errno) {
	if at < 0 || at > len(s) {
		return 0, 0, api.ErrArg
	}
	if at == len(s) {
		return 0, 0, api.ErrShort
	}
	width, from := int(s[at]), at+1
	if width > mostBytes {
		return 0, 0, api.ErrForm
	}
	if len(s)-from < width {
		return 0, 0, api.ErrShort
	}
	// A leading zero byte would be a second way to write the same number.
	if width > 0 && s[from] == 0 {
		return 0, 0, api.ErrForm
	}
	n := Worth(s[from : from+width])
	if n > api.MaxInt {
		return 0, 0, api.ErrForm
	}
	return int(n), from + width, api.OK
}

// Text encodes t, of at most most bytes, as its length and its bytes.
func Text(t string, most int) (string, api.Errno) {
	if len(t) > most {
		return "", api.ErrLong
	}
	head, e := Int(len(t))
	if e != api.OK {
		return "", e
	}
	return head + t, api.OK
}

// ReadText decodes the string, of at most most bytes, at an offset of s, and returns it with the offset after it.
func ReadText(s string, at, most int) (string, int, api.Errno) {
	n, from, e := ReadInt(s, at)
	if e != api.OK {
		return "", 0, e
	}
	if n > most {
		return "", 0, api.ErrLong
	}
	if len(s)-from < n {
		return "", 0, api.ErrShort
	}
	// A part of s would keep all of s in memory.
	return strings.Clone(s[from : from+n]), from + n, api.OK
}

// Fixed returns the width least significant bytes of n, the most significant of them first.
func Fixed(n uint64, width int) string {
	if width < 1 || width > api.MaxRecord {
		return ""
	}
	var b strings.Builder
	b.Grow(width)
	for i := range width {
		// A shift by 64 bits or more gives the leading zero bytes.
		b.WriteByte(byte(n >> (8 * uint(width-1-i))))
	}
	return b.String()
}

// Worth returns the number whose bytes are s, the most significant first, modulo 2^64.
func Worth(s string) uint64 {
	var n uint64
	for i := range len(s) {
		n = n<<8 | uint64(s[i])
	}
	return n
}
