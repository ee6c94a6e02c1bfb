package runes

import (
	"bytes"
	"math"
	"testing"
	"unicode/utf8"

	"colophon/api"
)

// edges are both ends of each of the four forms, and of what lies between them that is no character.
var edges = []struct {
	c    int
	want []byte
}{
	{0, []byte{0x00}},
	{0x41, []byte{0x41}},
	{0x7F, []byte{0x7F}},
	{0x80, []byte{0xC2, 0x80}},
	{0xE4, []byte{0xC3, 0xA4}},
	{0x7FF, []byte{0xDF, 0xBF}},
	{0x800, []byte{0xE0, 0xA0, 0x80}},
	{0xFFF, []byte{0xE0, 0xBF, 0xBF}},
	{0x1000, []byte{0xE1, 0x80, 0x80}},
	{0x20AC, []byte{0xE2, 0x82, 0xAC}},
	{0xD7FF, []byte{0xED, 0x9F, 0xBF}},
	{0xE000, []byte{0xEE, 0x80, 0x80}},
	{0xFEFF, []byte{0xEF, 0xBB, 0xBF}},
	{0xFFFF, []byte{0xEF, 0xBF, 0xBF}},
	{0x10000, []byte{0xF0, 0x90, 0x80, 0x80}},
	{0x1F600, []byte{0xF0, 0x9F, 0x98, 0x80}},
	{0x3FFFF, []byte{0xF0, 0xBF, 0xBF, 0xBF}},
	{0x40000, []byte{0xF1, 0x80, 0x80, 0x80}},
	{0x100000, []byte{0xF4, 0x80, 0x80, 0x80}},
	{0x10FFFF, []byte{0xF4, 0x8F, 0xBF, 0xBF}},
}

// isCharacter says it as the chapter's words do.
func isCharacter(c int) bool {
	return 0 <= c && c <= 0x10FFFF && !(0xD800 <= c && c <= 0xDFFF)
}

// mustEncode is for tests that need a character's bytes to begin with.
func mustEncode(t *testing.T, c int) []byte {
	t.Helper()
	b, e := Encode(c)
	if e != api.OK {
		t.Fatalf("Encode(%X): %d", c, e)
	}
	return b
}

// textOf is characters, one behind the other, as the library writes them.
func textOf(l ...rune) []byte {
	var b []byte
	for _, c := range l {
		b = utf8.AppendRune(b, c)
	}
	return b
}

// P1.1: a character's bytes at the ends of each form.
func TestEncodeEdges(t *testing.T) {
	for _, x := range edges {
		if b, e := Encode(x.c); e != api.OK || !bytes.Equal(b, x.want) {
			t.Errorf("Encode(%X): % X, %d; want % X", x.c, b, e, x.want)
		}
	}
}

// P1.1: what is no character has no bytes.
func TestEncodeRefuses(t *testing.T) {
	for _, c := range []int{-1, -0x41, -0x80, math.MinInt, math.MinInt32, 0xD800, 0xD801, 0xDABC, 0xDBFF, 0xDC00, 0xDFFE, 0xDFFF, 0x110000, 0x110041, 0x1FFFFF, 0x200000, math.MaxInt32, 1 << 32, 1<<32 + 0x41, math.MaxInt} {
		if b, e := Encode(c); e != api.ErrRune || len(b) != 0 {
			t.Errorf("Encode(%X): % X, %d; want ErrRune", c, b, e)
		}
	}
}

// P1.1: the library is another witness, for each number from below the first to beyond the last character.
func TestEncodeEach(t *testing.T) {
	for c := -0x100; c <= 0x120000; c++ {
		b, e := Encode(c)
		if isCharacter(c) != (e == api.OK) || e != api.OK && (e != api.ErrRune || len(b) != 0) {
			t.Fatalf("Encode(%X): % X, %d", c, b, e)
		}
		if e == api.OK && !bytes.Equal(b, utf8.AppendRune(nil, rune(c))) {
			t.Fatalf("Encode(%X): % X", c, b)
		}
	}
}

// P1.1: a character is read wherever it stands, whatever stands around it.
func TestDecodeEdges(t *testing.T) {
	around := [][]byte{nil, {0x41}, {0x80}, {0xC3}, {0xE2, 0x82}, {0xFF}, {0xF0, 0x9F, 0x98, 0x80}}
	for _, x := range edges {
		for _, ahead := range around {
			for _, behind := range around {
				b := bytes.Join([][]byte{ahead, x.want, behind}, nil)
				if c, size, e := Decode(b, len(ahead)); c != x.c || size != len(x.want) || e != api.OK {
					t.Errorf("Decode(% X, %d): %X, %d, %d; want %X", b, len(ahead), c, size, e, x.c)
				}
			}
		}
	}
}

// P1.1: places below 0 and past the end, whatever the bytes are.
func TestDecodePlaces(t *testing.T) {
	for _, b := range [][]byte{nil, {}, {0x41}, {0xFF}, {0xE2, 0x82}, {0xF0, 0x9F, 0x98, 0x80}, make([]byte, 0, 8), make([]byte, 2, 8)} {
		for _, at := range []int{math.MinInt, -2, -1, len(b), len(b) + 1, cap(b) + 1, math.MaxInt - 1, math.MaxInt} {
			if c, size, e := Decode(b, at); c != 0 || size != 0 || e != api.ErrRange {
				t.Errorf("Decode(% X, %d): %X, %d, %d; want ErrRange", b, at, c, size, e)
			}
		}
	}
}

// P1.1: pieces, and what is nothing; spare room behind the bytes is not read.
func TestDecodeRefuses(t *testing.T) {
	for _, x := range []struct {
		b  []byte
		at int
		e  api.Errno
	}{
		{[]byte{0xC2}, 0, api.ErrTrunc},
		{[]byte{0xDF}, 0, api.ErrTrunc},
		{[]byte{0xE0}, 0, api.ErrTrunc},
		{[]byte{0xE0, 0xA0}, 0, api.ErrTrunc},
		{[]byte{0xE2, 0x82}, 0, api.ErrTrunc},
		{[]byte{0xED}, 0, api.ErrTrunc},
		{[]byte{0xED, 0x9F}, 0, api.ErrTrunc},
		{[]byte{0xEF, 0xBF}, 0, api.ErrTrunc},
		{[]byte{0xF0}, 0, api.ErrTrunc},
		{[]byte{0xF0, 0x90}, 0, api.ErrTrunc},
		{[]byte{0xF0, 0x90, 0x80}, 0, api.ErrTrunc},
		{[]byte{0xF4}, 0, api.ErrTrunc},
		{[]byte{0xF4, 0x8F}, 0, api.ErrTrunc},
		{[]byte{0xF4, 0x8F, 0xBF}, 0, api.ErrTrunc},
		{[]byte{0xE2, 0x82, 0xAC, 0xE2, 0x82}, 3, api.ErrTrunc},
		{[]byte{0xE2, 0x82, 0xAC}[:2], 0, api.ErrTrunc},
		{[]byte{0x80}, 0, api.ErrRune},
		{[]byte{0xBF}, 0, api.ErrRune},
		{[]byte{0xE2, 0x82, 0xAC}, 1, api.ErrRune},
		{[]byte{0xE2, 0x82, 0xAC}, 2, api.ErrRune},
		{[]byte{0xC0}, 0, api.ErrRune},
		{[]byte{0xC0, 0x80}, 0, api.ErrRune},
		{[]byte{0xC1}, 0, api.ErrRune},
		{[]byte{0xC1, 0xBF}, 0, api.ErrRune},
		{[]byte{0xC3, 0x41}, 0, api.ErrRune},
		{[]byte{0xC3, 0xC3}, 0, api.ErrRune},
		{[]byte{0xE0, 0x80}, 0, api.ErrRune},
		{[]byte{0xE0, 0x9F}, 0, api.ErrRune},
		{[]byte{0xE0, 0x9F, 0xBF}, 0, api.ErrRune},
		{[]byte{0xE2, 0x41}, 0, api.ErrRune},
		{[]byte{0xE2, 0x82, 0x41}, 0, api.ErrRune},
		{[]byte{0xE2, 0x82, 0xC2}, 0, api.ErrRune},
		{[]byte{0xED, 0xA0}, 0, api.ErrRune},
		{[]byte{0xED, 0xA0, 0x80}, 0, api.ErrRune},
		{[]byte{0xED, 0xBF}, 0, api.ErrRune},
		{[]byte{0xED, 0xBF, 0xBF}, 0, api.ErrRune},
		{[]byte{0xF0, 0x80}, 0, api.ErrRune},
		{[]byte{0xF0, 0x8F}, 0, api.ErrRune},
		{[]byte{0xF0, 0x8F, 0xBF, 0xBF}, 0, api.ErrRune},
		{[]byte{0xF0, 0x9F, 0x41}, 0, api.ErrRune},
		{[]byte{0xF0, 0x9F, 0x98, 0x41}, 0, api.ErrRune},
		{[]byte{0xF4, 0x90}, 0, api.ErrRune},
		{[]byte{0xF4, 0x90, 0x80, 0x80}, 0, api.ErrRune},
		{[]byte{0xF5}, 0, api.ErrRune},
		{[]byte{0xF5, 0x80, 0x80, 0x80}, 0, api.ErrRune},
		{[]byte{0xF7, 0xBF, 0xBF, 0xBF}, 0, api.ErrRune},
		{[]byte{0xF8}, 0, api.ErrRune},
		{[]byte{0xF8, 0x88, 0x80, 0x80, 0x80}, 0, api.ErrRune},
		{[]byte{0xFE}, 0, api.ErrRune},
		{[]byte{0xFF}, 0, api.ErrRune},
	} {
		if c, size, e := Decode(x.b, x.at); c != 0 || size != 0 || e != x.e {
			t.Errorf("Decode(% X, %d): %X, %d, %d; want %d", x.b, x.at, c, size, e, x.e)
		}
	}
}

// listPieces lists every beginning of every character's bytes, by the chapter's words.
func listPieces() map[string]bool {
	pieces := map[string]bool{}
	for c := 0; c <= 0x10FFFF; c++ {
		if !isCharacter(c) {
			continue
		}
		b := utf8.AppendRune(nil, rune(c))
		for cut := 1; cut < len(b); cut++ {
			pieces[string(b[:cut])] = true
		}
	}
	return pieces
}

// witness is what stands at the beginning of bytes: the library knows characters, and what is no character is looked up.
func witness(b []byte, pieces map[string]bool) (c, size int, e api.Errno) {
	r, n := utf8.DecodeRune(b)
	switch {
	case r != utf8.RuneError || n > 1:
		return int(r), n, api.OK
	case pieces[string(b)]:
		return 0, 0, api.ErrTrunc
	}
	return 0, 0, api.ErrRune
}

// P1.1, P1.6: all rows of one and of two bytes, and of three and four those whose later bytes are at some end.
func TestDecodeRows(t *testing.T) {
	pieces := listPieces()
	try := func(row ...byte) {
		c, size, e := Decode(row, 0)
		if d, n, f := witness(row, pieces); c != d || size != n || e != f {
			t.Fatalf("Decode(% X, 0): %X, %d, %d; want %X, %d, %d", row, c, size, e, d, n, f)
		}
	}
	ends := []byte{0x00, 0x41, 0x7F, 0x80, 0x81, 0x8F, 0x90, 0x91, 0x9F, 0xA0, 0xA1, 0xBE, 0xBF, 0xC0, 0xC2, 0xDF, 0xED, 0xF4, 0xFF}
	for i := range 256 {
		try(byte(i))
		for j := range 256 {
			try(byte(i), byte(j))
			for _, x := range ends {
				try(byte(i), byte(j), x)
			}
		}
		for _, x := range ends {
			for _, y := range ends {
				for _, z := range ends {
					try(byte(i), x, y, z)
				}
			}
		}
	}
}

// P1.2: where the first wrong thing stands, and why; how many characters there are.
func TestCheckAndCount(t *testing.T) {
	for _, x := range []struct {
		b        []byte
		at, many int
		e        api.Errno
	}{
		{nil, 0, 0, api.OK},
		{[]byte{}, 0, 0, api.OK},
		{[]byte{0x00}, 1, 1, api.OK},
		{[]byte{0x41, 0xC3, 0xA4}, 3, 2, api.OK},
		{textOf(0x41, 0xE4, 0x20AC, 0x1F600), 10, 4, api.OK},
		{textOf(0x10FFFF, 0x10000, 0xFFFF, 0x800, 0x7FF, 0x80, 0x7F, 0), 20, 8, api.OK},
		{[]byte{0x41, 0xC3}, 1, 0, api.ErrTrunc},
		{[]byte{0xF0, 0x9F, 0x98}, 0, 0, api.ErrTrunc},
		{append(textOf(0x20AC, 0x1F600), 0xE2, 0x82), 7, 0, api.ErrTrunc},
		{[]byte{0x41, 0xFF}, 1, 0, api.ErrRune},
		{[]byte{0x41, 0xFF, 0x41}, 1, 0, api.ErrRune},
		{[]byte{0x80}, 0, 0, api.ErrRune},
		{[]byte{0xC3, 0xA4, 0xA4}, 2, 0, api.ErrRune},
		{[]byte{0xED, 0xA0, 0x80, 0xED, 0xB0, 0x80}, 0, 0, api.ErrRune},
		{[]byte{0x41, 0xC0, 0x80, 0xC3}, 1, 0, api.ErrRune},
		{[]byte{0xE2, 0x82, 0xF0, 0x9F, 0x98, 0x80}, 0, 0, api.ErrRune},
		{[]byte{0x41, 0xC3, 0xA4}[:2], 1, 0, api.ErrTrunc},
	} {
		if at, e := Check(x.b); at != x.at || e != x.e {
			t.Errorf("Check(% X): %d, %d; want %d, %d", x.b, at, e, x.at, x.e)
		}
		if many, e := Count(x.b); many != x.many || e != x.e {
			t.Errorf("Count(% X): %d, %d; want %d, %d", x.b, many, e, x.many, x.e)
		}
	}
}

// P1.2: what Check tells of a place is what Decode tells of it.
func TestCheckAgreesWithDecode(t *testing.T) {
	ahead := textOf(0x41, 0xE4, 0x20AC, 0x1F600)
	for i := range 256 {
		for j := range 256 {
			b := append(bytes.Clone(ahead), byte(i), byte(j))
			at, e := Check(b)
			switch {
			case utf8.Valid(b):
				if at != len(b) || e != api.OK {
					t.Fatalf("Check(% X): %d, %d", b, at, e)
				}
			default:
				_, _, want := Decode(b, at)
				if at < len(ahead) || !utf8.Valid(b[:at]) || e == api.OK || e != want {
					t.Fatalf("Check(% X): %d, %d; Decode there: %d", b, at, e, want)
				}
			}
		}
	}
}

// P1.3: bytes and their spare room are as they were.
func TestOnlyReads(t *testing.T) {
	for _, l := range [][]byte{textOf(0x41, 0xE4, 0x20AC, 0x1F600), {0x41, 0xE2, 0x82}, {0xFF, 0x80, 0xC3}} {
		room := append(bytes.Clone(l), 0xA5, 0xA5, 0xA5, 0xA5)
		was := bytes.Clone(room)
		b := room[:len(l)]
		for at := -1; at <= len(b); at++ {
			Decode(b, at)
		}
		Check(b)
		Count(b)
		if !bytes.Equal(room, was) {
			t.Errorf("% X became % X", was, room)
		}
	}
}

// P1.3: what was answered is the caller's: writing to it, or behind it, is seen nowhere else.
func TestNewMemory(t *testing.T) {
	for _, x := range edges {
		one, two := mustEncode(t, x.c), mustEncode(t, x.c)
		for i := range one {
			one[i] = 0xA5
		}
		room := one[:cap(one)]
		for i := range room {
			room[i] = 0xA5
		}
		if three := mustEncode(t, x.c); !bytes.Equal(two, x.want) || !bytes.Equal(three, x.want) {
			t.Errorf("Encode(%X): % X, then % X; want % X", x.c, two, three, x.want)
		}
	}
}

// P1.4: what Encode writes Decode reads, wherever it stands.
func TestWrittenIsRead(t *testing.T) {
	for c := 0; c <= 0x10FFFF; c++ {
		if !isCharacter(c) {
			continue
		}
		b := mustEncode(t, c)
		for _, ahead := range []int{0, 1, 3} {
			room := bytes.Repeat([]byte{0x80}, ahead+len(b)+1)
			copy(room[ahead:], b)
			if d, size, e := Decode(room, ahead); d != c || size != len(b) || e != api.OK {
				t.Fatalf("Decode(% X, %d): %X, %d, %d; want %X", room, ahead, d, size, e, c)
			}
		}
	}
}

// P1.4: what Decode reads Encode writes, so a character has one form.
func TestReadIsWritten(t *testing.T) {
	ends := []byte{0x00, 0x7F, 0x80, 0x81, 0x8F, 0x90, 0x9F, 0xA0, 0xBF, 0xC0, 0xFF}
	for i := range 256 {
		for j := range 256 {
			for _, x := range ends {
				for _, y := range ends {
					b := []byte{byte(i), byte(j), x, y}
					c, size, e := Decode(b, 0)
					if e != api.OK {
						continue
					}
					if w := mustEncode(t, c); !bytes.Equal(w, b[:size]) {
						t.Fatalf("Decode(% X, 0): %X; Encode: % X", b, c, w)
					}
				}
			}
		}
	}
}

// P1.4: no character's bytes are the beginning of another one's.
func TestNoneBeginsAnother(t *testing.T) {
	pieces := listPieces()
	for c := 0; c <= 0x10FFFF; c++ {
		if isCharacter(c) && pieces[string(mustEncode(t, c))] {
			t.Fatalf("%X's bytes begin another one's", c)
		}
	}
	for _, x := range edges {
		for _, y := range edges {
			if x.c != y.c && bytes.HasPrefix(mustEncode(t, y.c), mustEncode(t, x.c)) {
				t.Errorf("%X's bytes begin those of %X", x.c, y.c)
			}
		}
	}
}

// P1.5: characters one behind the other are text, read as they were written; text behind text is text.
func TestTextBehindText(t *testing.T) {
	var all []byte
	many := 0
	for _, x := range edges {
		for _, y := range edges {
			l := append(mustEncode(t, x.c), mustEncode(t, y.c)...)
			if n, e := Count(l); n != 2 || e != api.OK {
				t.Errorf("Count(% X): %d, %d", l, n, e)
			}
			all = append(all, l...)
			many += 2
			if at, e := Check(all); at != len(all) || e != api.OK {
				t.Fatalf("Check of %d bytes: %d, %d", len(all), at, e)
			}
			if n, e := Count(all); n != many || e != api.OK {
				t.Fatalf("Count of %d characters: %d, %d", many, n, e)
			}
		}
	}
	at := 0
	for _, x := range edges {
		for _, y := range edges {
			for _, want := range []int{x.c, y.c} {
				c, size, e := Decode(all, at)
				if c != want || e != api.OK {
					t.Fatalf("at %d: %X, %d; want %X", at, c, e, want)
				}
				at += size
			}
		}
	}
}

// P1.5: bytes are in the order of their characters.
func TestOrder(t *testing.T) {
	last := mustEncode(t, 0)
	for c := 1; c <= 0x10FFFF; c++ {
		if !isCharacter(c) {
			continue
		}
		b := mustEncode(t, c)
		if bytes.Compare(last, b) >= 0 {
			t.Fatalf("% X stands ahead of %X's % X", last, c, b)
		}
		last = b
	}
}

// P1.6: a character, cut, is a piece; with the bytes that lack it is the character.
func TestPieces(t *testing.T) {
	for c := 0; c <= 0x10FFFF; c++ {
		if !isCharacter(c) {
			continue
		}
		b := mustEncode(t, c)
		for cut := 1; cut < len(b); cut++ {
			if d, size, e := Decode(b[:cut], 0); d != 0 || size != 0 || e != api.ErrTrunc {
				t.Fatalf("Decode(% X, 0): %X, %d, %d; want ErrTrunc", b[:cut], d, size, e)
			}
			again := append(bytes.Clone(b[:cut]), b[cut:]...)
			if d, size, e := Decode(again, 0); d != c || size != len(b) || e != api.OK {
				t.Fatalf("Decode(% X, 0): %X, %d, %d; want %X", again, d, size, e, c)
			}
		}
	}
}

// The chapter's examples, as they stand there.
func TestExamples(t *testing.T) {
	for _, x := range []struct {
		c    int
		want []byte
		e    api.Errno
	}{
		{0x41, []byte{0x41}, api.OK},
		{0xE4, []byte{0xC3, 0xA4}, api.OK},
		{0x20AC, []byte{0xE2, 0x82, 0xAC}, api.OK},
		{0x1F600, []byte{0xF0, 0x9F, 0x98, 0x80}, api.OK},
		{0xD800, nil, api.ErrRune},
		{0x110000, nil, api.ErrRune},
	} {
		if b, e := Encode(x.c); !bytes.Equal(b, x.want) || e != x.e {
			t.Errorf("Encode(%X): % X, %d", x.c, b, e)
		}
	}
	for _, x := range []struct {
		b           []byte
		at, c, size int
		e           api.Errno
	}{
		{[]byte{0xE2, 0x82, 0xAC}, 0, 0x20AC, 3, api.OK},
		{[]byte{0xE2, 0x82}, 0, 0, 0, api.ErrTrunc},
		{[]byte{0xC0, 0x80}, 0, 0, 0, api.ErrRune},
		{[]byte{0x80}, 0, 0, 0, api.ErrRune},
		{[]byte{0xED, 0xA0}, 0, 0, 0, api.ErrRune},
		{[]byte{0x41}, 1, 0, 0, api.ErrRange},
	} {
		if c, size, e := Decode(x.b, x.at); c != x.c || size != x.size || e != x.e {
			t.Errorf("Decode(% X, %d): %X, %d, %d", x.b, x.at, c, size, e)
		}
	}
	if at, e := Check([]byte{0x41, 0xC3}); at != 1 || e != api.ErrTrunc {
		t.Errorf("Check(41 C3): %d, %d", at, e)
	}
	if at, e := Check([]byte{0x41, 0xFF}); at != 1 || e != api.ErrRune {
		t.Errorf("Check(41 FF): %d, %d", at, e)
	}
	if n, e := Count([]byte{0x41, 0xC3, 0xA4}); n != 2 || e != api.OK {
		t.Errorf("Count(41 C3 A4): %d, %d", n, e)
	}
}

// R1: no bytes and no place make a call panic or go on for ever.
func FuzzCalls(f *testing.F) {
	f.Add([]byte{0x41, 0xC3, 0xA4}, 1)
	f.Add([]byte{0xF4, 0x90, 0x80}, 0)
	f.Add([]byte{}, -1)
	f.Fuzz(func(t *testing.T, b []byte, at int) {
		c, size, e := Decode(b, at)
		if e == api.OK && !bytes.Equal(mustEncode(t, c), b[at:at+size]) {
			t.Errorf("Decode(% X, %d): %X, %d", b, at, c, size)
		}
		n, e := Count(b)
		if utf8.Valid(b) != (e == api.OK) || e == api.OK && n != utf8.RuneCount(b) {
			t.Errorf("Count(% X): %d, %d", b, n, e)
		}
	})
}
