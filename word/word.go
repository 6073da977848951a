// Package word is layer 1: numbers of 32 bits, and their bits and bytes.
// Its promises stand in shared/doc/01-word.md.
package word

import (
	"mimesis/api"
)

const (
	wordBits  = 32
	wordChars = 8 // digits of a word, base 16
	digits    = "0123456789abcdef"
)

// Bits answers the width bits of w from at on, as a number.
func Bits(w uint32, at, width int) (uint32, api.Errno) {
	if !isField(at, width) {
		return 0, api.ErrRange
	}
	return (w >> at) & lowest(width), api.OK
}

// Put answers w with the width bits from at on taken from x's lowest ones.
func Put(w uint32, at, width int, x uint32) (uint32, api.Errno) {
	if !isField(at, width) {
		return 0, api.ErrRange
	}
	m := lowest(width)
	return w&^(m<<at) | (x&m)<<at, api.OK
}

// Extend answers x's lowest width bits as a signed number.
func Extend(x uint32, width int) (uint32, api.Errno) {
	if width < 1 || width > wordBits {
		return 0, api.ErrRange
	}
	above := wordBits - width
	// Shifting a signed number down repeats its highest bit.
	return uint32(int32(x<<above) >> above), api.OK
}

// Signed answers w as a signed number.
func Signed(w uint32) int {
	return int(int32(w))
}

// Bytes answers the lowest n bytes of w, the lowest first.
func Bytes(w uint32, n int) ([]byte, api.Errno) {
	if !isSize(n) {
		return nil, api.ErrRange
	}
	var b []byte
	for i := range n {
		b = append(b, byte(w>>(8*i)))
	}
	return b, api.OK
}

// Number answers the number whose bytes, the lowest first, b holds.
func Number(b []byte) (uint32, api.Errno) {
	if !isSize(len(b)) {
		return 0, api.ErrRange
	}
	var w uint32
	for i, x := range b {
		w |= uint32(x) << (8 * i)
	}
	return w, api.OK
}

// Hex answers w as eight digits, the highest first.
func Hex(w uint32) string {
	b := make([]byte, 0, wordChars)
	for i := range wordChars {
		b = append(b, digits[(w>>(wordBits-4-4*i))&15])
	}
	return string(b)
}

// Unhex answers the number that one to eight digits, small or great, tell.
func Unhex(s string) (uint32, api.Errno) {
	if len(s) < 1 || len(s) > wordChars {
		return 0, api.ErrForm
	}
	var w uint32
	// By bytes, not runes: a sign of several bytes is no digit at any of them.
	for i := range len(s) {
		d, ok := digit(s[i])
		if !ok {
			return 0, api.ErrForm
		}
		w = w<<4 | d
	}
	return w, api.OK
}

// isField asks for at first, so that wordBits - at cannot wrap round.
func isField(at, width int) bool {
	return at >= 0 && at < wordBits && width >= 1 && width <= wordBits-at
}

func isSize(n int) bool {
	return n == 1 || n == 2 || n == 4
}

// lowest answers a word whose width lowest bits, from 1 to 32, are set.
func lowest(width int) uint32 {
	return ^uint32(0) >> (wordBits - width)
}

func digit(c byte) (uint32, bool) {
	switch {
	case c >= '0' && c <= '9':
		return uint32(c - '0'), true
	case c >= 'a' && c <= 'f':
		return uint32(c-'a') + 10, true
	case c >= 'A' && c <= 'F':
		return uint32(c-'A') + 10, true
	}
	return 0, false
}
