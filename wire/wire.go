// Package wire: bytes joined, compared, wiped, written in hexadecimal; fields written and read. Chapter 1.
package wire

import (
	"strings"

	"lethe/api"
)

// digits: a digit's value is its place.
const digits = "0123456789abcdef"

// Join: all of them, one behind the other, in new memory.
func Join(parts ...[]byte) []byte {
	var joined []byte
	for _, part := range parts {
		joined = append(joined, part...)
	}
	return joined
}

// Same: are both the same bytes? Every byte is looked at, so that the steps don't tell where they part.
func Same(a, b []byte) bool {
	if len(a) != len(b) {
		return false
	}
	var unlike byte
	for i := range a {
		unlike |= a[i] ^ b[i]
	}
	return unlike == 0
}

// Wipe: every byte becomes zero.
func Wipe(b []byte) { clear(b) }

// Blank: is every byte zero? Every byte is looked at, as in Same.
func Blank(b []byte) bool {
	var bits byte
	for _, x := range b {
		bits |= x
	}
	return bits == 0
}

// Hex: two lower-case digits a byte.
func Hex(b []byte) string {
	text := make([]byte, 0, 2*len(b))
	for _, x := range b {
		text = append(text, digits[x>>4], digits[x&15])
	}
	return string(text)
}

// Unhex: the bytes of such a text.
func Unhex(s string) ([]byte, api.Errno) {
	if len(s)%2 != 0 {
		return nil, api.ErrHex
	}
	b := make([]byte, 0, len(s)/2)
	for i := 0; i < len(s); i += 2 {
		high := strings.IndexByte(digits, s[i])
		low := strings.IndexByte(digits, s[i+1])
		if high < 0 || low < 0 {
			return nil, api.ErrHex
		}
		b = append(b, byte(high<<4|low))
	}
	return b, api.OK
}
