// Package wire: numbers, lengths, texts and bytes; a reader that says where: see doc/01-wire.md.
package wire

import (
	"slices"
	"strings"
	"unicode/utf8"

	"crier/api"
)

// lengthBytes: how many bytes a length has at most.
const lengthBytes = 4

// Check tells whether a text is one: the place and the error of what isn't.
func Check(s string) (int, api.Errno) {
	if len(s) > api.MaxText {
		return api.MaxText, api.ErrWireLong
	}
	for i, c := range s {
		if c == 0 {
			return i, api.ErrWireZero
		}
		// Ranging gives U+FFFD for what is no code point, but it is also a code point of its own.
		if c == utf8.RuneError && !strings.HasPrefix(s[i:], string(utf8.RuneError)) {
			return i, api.ErrWireUTF
		}
	}
	return 0, api.OK
}

// PutNumber lays a number of two bytes behind b.
func PutNumber(b []byte, n int) []byte {
	return behind(b, byte(n>>8), byte(n))
}

// PutLong lays a number of four bytes behind b.
func PutLong(b []byte, n int) []byte {
	return behind(b, byte(n>>24), byte(n>>16), byte(n>>8), byte(n))
}

// PutLength lays a length behind b.
func PutLength(b []byte, n int) []byte {
	n = min(max(n, 0), api.MaxLength)
	var groups []byte
	for n > 0x7F {
		groups = append(groups, byte(n&0x7F|0x80))
		n >>= 7
	}
	return behind(b, append(groups, byte(n))...)
}

// PutText lays a text behind b.
func PutText(b []byte, s string) ([]byte, api.Errno) {
	if _, e := Check(s); e != api.OK {
		return nil, e
	}
	return append(PutNumber(b, len(s)), s...), api.OK
}

// PutData lays bytes behind b.
func PutData(b, d []byte) ([]byte, api.Errno) {
	if len(d) > api.MaxText {
		return nil, api.ErrWireLong
	}
	return append(PutNumber(b, len(d)), d...), api.OK
}

// Length tells the length at b's beginning, and how many bytes it takes.
func Length(b []byte) (int, int, api.Errno) {
	n := 0
	for i, c := range b[:min(len(b), lengthBytes)] {
		n |= int(c&0x7F) << (7 * i)
		if c&0x80 == 0 {
			return n, i + 1, api.OK
		}
	}
	if len(b) < lengthBytes {
		return 0, 0, api.ErrWireShort
	}
	return 0, 0, api.ErrWireForm
}

// behind lays bytes behind b's in new memory: the room behind b is its owner's.
func behind(b []byte, laid ...byte) []byte {
	return slices.Concat(b, laid)
}
