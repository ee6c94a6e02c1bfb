// Package runes is layer 1: see shared/doc/01-runes.md.
package runes

import "colophon/api"

// The ones that a byte begins with say what it is: none, a character of its own; one, a byte that goes on; else the first byte of a form of so many bytes. Behind them and a zero the byte has bits of the character. So iota is how many ones there are.
const (
	plainMark, plainMask = 0xFF << (8 - iota) & 0xFF, 0x7F >> iota
	tailMark, tailMask
	mark2, mask2
	mark3, mask3
	mark4, mask4
)

// tailBits is how many bits of a character a byte has that goes on.
const tailBits = 6

// Characters up to these, each included, have one, two, three and four bytes; those from lowPair to highPair stand for halves of pairs in UTF-16 and are none.
const (
	last1    = 0x7F
	last2    = 0x7FF
	last3    = 0xFFFF
	last4    = 0x10FFFF
	lowPair  = 0xD800
	highPair = 0xDFFF
)

// Decode is the character at a place, and how many bytes it has.
func Decode(b []byte, at int) (c, size int, e api.Errno) {
	if at < 0 || at >= len(b) {
		return 0, 0, api.ErrRange
	}
	c, size = first(b[at])
	if size == 0 {
		return 0, 0, api.ErrRune
	}
	there := min(size, len(b)-at)
	for _, x := range b[at+1 : at+there] {
		if x&^tailMask != tailMark {
			return 0, 0, api.ErrRune
		}
		c = c<<tailBits | int(x&tailMask)
	}
	lack := size - there
	switch {
	case !begins(c, lack, size):
		return 0, 0, api.ErrRune
	case lack > 0:
		return 0, 0, api.ErrTrunc
	}
	return c, size, api.OK
}

// Encode is a character's bytes.
func Encode(c int) ([]byte, api.Errno) {
	switch form(c) {
	case 1:
		return []byte{byte(c)}, api.OK
	case 2:
		return []byte{mark2 | byte(c>>tailBits), tail(c)}, api.OK
	case 3:
		return []byte{mark3 | byte(c>>(2*tailBits)), tail(c >> tailBits), tail(c)}, api.OK
	case 4:
		return []byte{mark4 | byte(c>>(3*tailBits)), tail(c >> (2 * tailBits)), tail(c >> tailBits), tail(c)}, api.OK
	}
	return nil, api.ErrRune
}

// Check tells whether bytes are UTF-8: the first place at which no character stands, and why.
func Check(b []byte) (at int, e api.Errno) {
	at, _, e = walk(b)
	return at, e
}

// Count is how many characters bytes have.
func Count(b []byte) (int, api.Errno) {
	_, many, e := walk(b)
	if e != api.OK {
		return 0, e
	}
	return many, api.OK
}

// walk goes over characters, one behind the other: where it ends, how many there were, and what stopped it.
func walk(b []byte) (at, many int, e api.Errno) {
	for at < len(b) {
		_, size, wrong := Decode(b, at)
		if wrong != api.OK {
			return at, many, wrong
		}
		at += size
		many++
	}
	return at, many, api.OK
}

// form is how many bytes a number's form has; 0, if it is no character.
func form(c int) int {
	switch {
	case c < 0:
		return 0
	case c <= last1:
		return 1
	case c <= last2:
		return 2
	case lowPair <= c && c <= highPair:
		return 0
	case c <= last3:
		return 3
	case c <= last4:
		return 4
	}
	return 0
}

// first is what a first byte says: its bits of the character, and how many bytes the form has; 0, if it is none. That no character has such a form (C0, F5) is begins' to tell.
func first(x byte) (c, size int) {
	switch {
	case x&^plainMask == plainMark:
		return int(x & plainMask), 1
	case x&^mask2 == mark2:
		return int(x & mask2), 2
	case x&^mask3 == mark3:
		return int(x & mask3), 3
	case x&^mask4 == mark4:
		return int(x & mask4), 4
	}
	return 0, 0
}

// tail is the byte that goes on with the lowest bits of a number.
func tail(c int) byte {
	return tailMark | byte(c&tailMask)
}

// begins tells whether some character of a form has these bits, with lack bytes more to come. The two outermost numbers tell: where characters of the form lie between them, they reach one of the two.
func begins(c, lack, size int) bool {
	low := c << (tailBits * lack)
	high := low | (1<<(tailBits*lack) - 1)
	return form(low) == size || form(high) == size
}
