package units

import (
	"bytes"
	"math"
	"slices"
	"testing"
	"unicode/utf16"
	"unicode/utf8"

	"colophon/api"
	"colophon/runes"
)

// edges are both ends of each form in bytes and in units, and of what no character is.
var edges = []struct {
	c    rune
	want []uint16
}{
	{0, []uint16{0x0000}},
	{0x61, []uint16{0x0061}},
	{0x7F, []uint16{0x007F}},
	{0x80, []uint16{0x0080}},
	{0xE4, []uint16{0x00E4}},
	{0x7FF, []uint16{0x07FF}},
	{0x800, []uint16{0x0800}},
	{0xD7FF, []uint16{0xD7FF}},
	{0xE000, []uint16{0xE000}},
	{0xFFFD, []uint16{0xFFFD}},
	{0xFFFF, []uint16{0xFFFF}},
	{0x10000, []uint16{0xD800, 0xDC00}},
	{0x10001, []uint16{0xD800, 0xDC01}},
	{0x103FF, []uint16{0xD800, 0xDFFF}},
	{0x10400, []uint16{0xD801, 0xDC00}},
	{0x1F600, []uint16{0xD83D, 0xDE00}},
	{0x1FFFF, []uint16{0xD83F, 0xDFFF}},
	{0x20000, []uint16{0xD840, 0xDC00}},
	{0xFFFFF, []uint16{0xDBBF, 0xDFFF}},
	{0x100000, []uint16{0xDBC0, 0xDC00}},
	{0x10FC00, []uint16{0xDBFF, 0xDC00}},
	{0x10FFFF, []uint16{0xDBFF, 0xDFFF}},
}

// wrong are bytes that are no text: pieces and what is nothing, with text ahead and behind.
var wrong = [][]byte{
	{0xC3},
	{0xE2, 0x82},
	{0xF0, 0x9F, 0x98},
	{0x61, 0xC3},
	{0x61, 0xF0, 0x9F, 0x98, 0x80, 0xE2},
	[]byte{0x61, 0xC3, 0xA4}[:2],
	{0xFF},
	{0x80},
	{0xC0, 0x80},
	{0xED, 0xA0, 0x80},
	{0xED, 0xA0, 0xBD, 0xED, 0xB8, 0x80},
	{0xF4, 0x90, 0x80, 0x80},
	{0x61, 0xFF, 0x61},
	{0xC3, 0x61},
	{0xF0, 0x9F, 0x98, 0x80, 0x80},
	{0xFF, 0xC3},
}

// textOf is characters, one behind the other, as the library writes them.
func textOf(l ...rune) []byte {
	var b []byte
	for _, c := range l {
		b = utf8.AppendRune(b, c)
	}
	return b
}

// someTexts are all rows of up to three characters of the edges, and longer ones.
func someTexts() [][]rune {
	texts := [][]rune{{}}
	for _, x := range edges {
		texts = append(texts, []rune{x.c})
		for _, y := range edges {
			texts = append(texts, []rune{x.c, y.c})
			for _, z := range edges {
				texts = append(texts, []rune{x.c, y.c, z.c})
			}
		}
	}
	var long []rune
	for i := range 500 {
		long = append(long, edges[i*i*7%len(edges)].c)
		if i%50 == 0 {
			texts = append(texts, slices.Clone(long))
		}
	}
	return texts
}

// mustOf is for tests that need a text's number of units to begin with.
func mustOf(t *testing.T, b []byte) int {
	t.Helper()
	n, e := Of(b)
	if e != api.OK {
		t.Fatalf("Of(% X): %d", b, e)
	}
	return n
}

// mustOf16 is for tests that need a text's units to begin with.
func mustOf16(t *testing.T, b []byte) []uint16 {
	t.Helper()
	l, e := Of16(b)
	if e != api.OK {
		t.Fatalf("Of16(% X): %d", b, e)
	}
	return l
}

// mustText is for tests that need a text of units to begin with.
func mustText(t *testing.T, l []uint16) []byte {
	t.Helper()
	b, e := Text(l)
	if e != api.OK {
		t.Fatalf("Text(%04X): %d", l, e)
	}
	return b
}

// mustOffset is for tests that need a place to begin with.
func mustOffset(t *testing.T, b []byte, n int) int {
	t.Helper()
	at, e := Offset(b, n)
	if e != api.OK {
		t.Fatalf("Offset(% X, %d): %d", b, n, e)
	}
	return at
}

// placeOf says where n units end as the chapter's words do: it tries each place between characters.
func placeOf(text []rune, n int) int {
	last := 0
	for i := range len(text) + 1 {
		if len(utf16.Encode(text[:i])) <= n {
			last = i
		}
	}
	return len(textOf(text[:last]...))
}

// areUnits tells whether some text has these units: the library puts another unit where a half stands alone.
func areUnits(l []uint16) bool {
	return slices.Equal(utf16.Encode(utf16.Decode(l)), l)
}

// P2.1: no units, one, and two, at the ends of the forms.
func TestOfEdges(t *testing.T) {
	for _, b := range [][]byte{nil, {}, make([]byte, 0, 8)} {
		n, e := Of(b)
		l, f := Of16(b)
		if n != 0 || e != api.OK || len(l) != 0 || f != api.OK {
			t.Errorf("nothing: %d, %d; %04X, %d", n, e, l, f)
		}
	}
	for _, x := range edges {
		b := textOf(x.c)
		n, e := Of(b)
		l, f := Of16(b)
		if n != len(x.want) || e != api.OK || !slices.Equal(l, x.want) || f != api.OK {
			t.Errorf("%X: %d, %d; %04X, %d; want %04X", x.c, n, e, l, f, x.want)
		}
	}
}

// P2.1: the library is another witness, for each character.
func TestOfEach(t *testing.T) {
	for c := rune(0); c <= 0x10FFFF; c++ {
		if !utf8.ValidRune(c) {
			continue
		}
		b, want := textOf(c), utf16.AppendRune(nil, c)
		n, e := Of(b)
		l, f := Of16(b)
		if n != len(want) || e != api.OK || !slices.Equal(l, want) || f != api.OK {
			t.Fatalf("%X: %d, %d; %04X, %d; want %04X", c, n, e, l, f, want)
		}
	}
}

// P2.1: a text's units are its characters', in order.
func TestOfTexts(t *testing.T) {
	for _, text := range someTexts() {
		b, want := textOf(text...), utf16.Encode(text)
		n, e := Of(b)
		l, f := Of16(b)
		if n != len(want) || e != api.OK || !slices.Equal(l, want) || f != api.OK {
			t.Fatalf("%X: %d, %d; %04X, %d; want %04X", text, n, e, l, f, want)
		}
	}
}

// P2.1: what is no text has runes.Check's error, and nothing beside it.
func TestOfRefuses(t *testing.T) {
	for _, b := range wrong {
		_, want := runes.Check(b)
		n, e := Of(b)
		l, f := Of16(b)
		if want == api.OK || n != 0 || e != want || len(l) != 0 || f != want {
			t.Errorf("% X: %d, %d; %04X, %d; want %d", b, n, e, l, f, want)
		}
	}
	for i := range 256 {
		for j := range 256 {
			b := []byte{0x61, byte(i), byte(j)}
			_, want := runes.Check(b)
			_, e := Of(b)
			_, f := Of16(b)
			_, g := Offset(b, 1)
			if e != want || f != want || g != want {
				t.Fatalf("% X: %d, %d, %d; want %d", b, e, f, g, want)
			}
		}
	}
}

// P2.2: each number of units, from none to more than there are.
func TestOffsetTexts(t *testing.T) {
	for _, text := range someTexts() {
		b := textOf(text...)
		most := len(utf16.Encode(text))
		step := 1 + len(text)/20
		for n := 0; n <= most+2; n += step {
			if at, e := Offset(b, n); at != placeOf(text, n) || e != api.OK {
				t.Fatalf("Offset(%X, %d): %d, %d; want %d", text, n, at, e, placeOf(text, n))
			}
		}
		for _, n := range []int{most, most + 1, math.MaxInt32, math.MaxInt - 1, math.MaxInt} {
			if at, e := Offset(b, n); at != len(b) || e != api.OK {
				t.Fatalf("Offset(%X, %d): %d, %d; want %d", text, n, at, e, len(b))
			}
		}
	}
}

// P2.2: a number that ends between the units of a pair ends ahead of the pair.
func TestOffsetWithinPair(t *testing.T) {
	b := textOf(0x1F600, 0x61, 0x10000, 0x10FFFF)
	for n, want := range []int{0, 0, 4, 5, 5, 9, 9, 13, 13} {
		if at, e := Offset(b, n); at != want || e != api.OK {
			t.Errorf("Offset(% X, %d): %d, %d; want %d", b, n, at, e, want)
		}
	}
}

// P2.2: a number below 0, of whichever text.
func TestOffsetBelow(t *testing.T) {
	for _, b := range [][]byte{nil, {}, {0x61}, textOf(0x61, 0xE4, 0x1F600, 0x62)} {
		for _, n := range []int{-1, -2, math.MinInt32, math.MinInt + 1, math.MinInt} {
			if at, e := Offset(b, n); at != 0 || e != api.ErrRange {
				t.Errorf("Offset(% X, %d): %d, %d; want ErrRange", b, n, at, e)
			}
		}
	}
}

// P2.2: that bytes are no text is told first, even of a number below 0, even if the place lies ahead of what is wrong.
func TestOffsetRefuses(t *testing.T) {
	for _, b := range wrong {
		_, want := runes.Check(b)
		for _, n := range []int{math.MinInt, -1, 0, 1, 2, 9, math.MaxInt} {
			if at, e := Offset(b, n); at != 0 || e != want {
				t.Errorf("Offset(% X, %d): %d, %d; want %d", b, n, at, e, want)
			}
		}
	}
}

// P2.3: each unit alone: a half of a pair is no text.
func TestTextOfOne(t *testing.T) {
	for i := range 0x10000 {
		b, e := Text([]uint16{uint16(i)})
		if 0xD800 <= i && i <= 0xDFFF {
			if len(b) != 0 || e != api.ErrRune {
				t.Fatalf("Text(%04X): % X, %d; want ErrRune", i, b, e)
			}
		} else if !bytes.Equal(b, textOf(rune(i))) || e != api.OK {
			t.Fatalf("Text(%04X): % X, %d", i, b, e)
		}
	}
}

// P2.3: rows of up to four units that stand at some end.
func TestTextOfRows(t *testing.T) {
	try := func(l ...uint16) {
		b, e := Text(l)
		switch {
		case !areUnits(l):
			if len(b) != 0 || e != api.ErrRune {
				t.Fatalf("Text(%04X): % X, %d; want ErrRune", l, b, e)
			}
		case !bytes.Equal(b, textOf(utf16.Decode(l)...)) || e != api.OK:
			t.Fatalf("Text(%04X): % X, %d", l, b, e)
		}
	}
	ends := []uint16{0, 0x61, 0x7F, 0x80, 0x7FF, 0x800, 0xD7FF, 0xD800, 0xD801, 0xDBFF, 0xDC00, 0xDC01, 0xDFFF, 0xE000, 0xFFFD, 0xFFFF}
	try()
	for _, w := range ends {
		try(w)
		for _, x := range ends {
			try(w, x)
			for _, y := range ends {
				try(w, x, y)
				for _, z := range ends {
					try(w, x, y, z)
				}
			}
		}
	}
}

// P2.3: halves that are alone, at the beginning, within, at the end; spare room behind the units is not read.
func TestTextRefuses(t *testing.T) {
	for _, l := range [][]uint16{
		{0xD800},
		{0xDBFF},
		{0xDC00},
		{0xDFFF},
		{0xDC00, 0xD800},
		{0xD800, 0xD800, 0xDC00},
		{0xD800, 0xDC00, 0xDC00},
		{0xD800, 0x61, 0xDC00},
		{0x61, 0xD800, 0x61},
		{0x61, 0xD83D, 0xDE00, 0xD83D},
		{0xD800, 0xDBFF},
		{0xD800, 0xE000},
		{0xD7FF, 0xDC00},
		[]uint16{0xD83D, 0xDE00}[:1],
	} {
		if b, e := Text(l); len(b) != 0 || e != api.ErrRune {
			t.Errorf("Text(%04X): % X, %d; want ErrRune", l, b, e)
		}
	}
	for _, l := range [][]uint16{nil, {}, make([]uint16, 0, 4)} {
		if b, e := Text(l); len(b) != 0 || e != api.OK {
			t.Errorf("Text of nothing: % X, %d", b, e)
		}
	}
}

// P2.4: bytes, units and their spare room are as they were.
func TestOnlyReads(t *testing.T) {
	for _, l := range append([][]byte{textOf(0x61, 0xE4, 0x20AC, 0x1F600, 0x62)}, wrong...) {
		room := append(bytes.Clone(l), 0xA5, 0xA5, 0xA5, 0xA5)
		was := bytes.Clone(room)
		b := room[:len(l)]
		Of(b)
		Of16(b)
		for n := -1; n <= len(b)+1; n++ {
			Offset(b, n)
		}
		if !bytes.Equal(room, was) {
			t.Errorf("% X became % X", was, room)
		}
	}
	for _, l := range [][]uint16{{0x61, 0xE4, 0xD83D, 0xDE00}, {0xD83D}, {0xDE00, 0xD83D}} {
		room := append(slices.Clone(l), 0xDE00, 0xA5A5, 0xA5A5)
		was := slices.Clone(room)
		Text(room[:len(l)])
		if !slices.Equal(room, was) {
			t.Errorf("%04X became %04X", was, room)
		}
	}
}

// P2.4: what was answered is the caller's: writing to it, or behind it, is seen nowhere else.
func TestNewMemory(t *testing.T) {
	for _, x := range edges {
		b := textOf(x.c, 0x61, x.c)
		was, want := bytes.Clone(b), mustOf16(t, b)
		l := mustOf16(t, b)
		again := mustText(t, want)
		for i := range cap(l) {
			l[:cap(l)][i] = 0xA5A5
		}
		for i := range cap(again) {
			again[:cap(again)][i] = 0xA5
		}
		if !bytes.Equal(b, was) || !slices.Equal(want, utf16.Encode([]rune{x.c, 0x61, x.c})) {
			t.Errorf("%X: % X, %04X", x.c, b, want)
		}
		if !slices.Equal(mustOf16(t, b), want) || !bytes.Equal(mustText(t, want), was) {
			t.Errorf("%X: %04X, % X, asked again", x.c, mustOf16(t, b), mustText(t, want))
		}
	}
}

// P2.5: units of a text make the text again, and the text of units has them.
func TestThereAndBack(t *testing.T) {
	for _, text := range someTexts() {
		b := textOf(text...)
		if again := mustText(t, mustOf16(t, b)); !bytes.Equal(again, b) {
			t.Fatalf("% X became % X", b, again)
		}
		l := utf16.Encode(text)
		if again := mustOf16(t, mustText(t, l)); !slices.Equal(again, l) {
			t.Fatalf("%04X became %04X", l, again)
		}
	}
	for c := rune(0); c <= 0x10FFFF; c++ {
		if !utf8.ValidRune(c) {
			continue
		}
		if b := textOf(c); !bytes.Equal(mustText(t, mustOf16(t, b)), b) {
			t.Fatalf("%X became % X", c, mustText(t, mustOf16(t, b)))
		}
	}
}

// P2.5: at least as many bytes as units, at most three times as many; both ends are reached.
func TestBytesAndUnits(t *testing.T) {
	for _, text := range someTexts() {
		b := textOf(text...)
		if n := mustOf(t, b); n > len(b) || len(b) > 3*n {
			t.Fatalf("%X: %d bytes, %d units", text, len(b), n)
		}
	}
	if n := mustOf(t, bytes.Repeat([]byte{0x61}, 100)); n != 100 {
		t.Errorf("100 bytes: %d", n)
	}
	if n := mustOf(t, bytes.Repeat(textOf(0xFFFF), 100)); n != 100 {
		t.Errorf("300 bytes: %d", n)
	}
}

// P2.6: ahead of the place there are at most so many units, with a character more too many; places do not fall.
func TestOffsetHolds(t *testing.T) {
	for _, text := range someTexts() {
		b := textOf(text...)
		most := mustOf(t, b)
		last := 0
		for n := 0; n <= most+1; n++ {
			at := mustOffset(t, b, n)
			if at < last || mustOf(t, b[:at]) > n {
				t.Fatalf("Offset(%X, %d): %d, behind %d", text, n, at, last)
			}
			if at < len(b) {
				_, size := utf8.DecodeRune(b[at:])
				if mustOf(t, b[:at+size]) <= n {
					t.Fatalf("Offset(%X, %d): %d; a character more would do", text, n, at)
				}
			}
			last = at
		}
	}
}

// P2.6: a prefix's units end where it does.
func TestOffsetOfPrefix(t *testing.T) {
	for _, text := range someTexts() {
		b := textOf(text...)
		for i := range len(text) + 1 {
			ahead := textOf(text[:i]...)
			if at := mustOffset(t, b, mustOf(t, ahead)); at != len(ahead) {
				t.Fatalf("%X, of which %d: %d, not %d", text, i, at, len(ahead))
			}
		}
	}
}

// P2.7: a text behind a text has the units of both.
func TestTextBehindText(t *testing.T) {
	texts := someTexts()
	for i := range texts {
		one, two := textOf(texts[i]...), textOf(texts[(i*31+7)%len(texts)]...)
		both := slices.Concat(one, two)
		l := slices.Concat(mustOf16(t, one), mustOf16(t, two))
		if !slices.Equal(mustOf16(t, both), l) || mustOf(t, both) != mustOf(t, one)+mustOf(t, two) {
			t.Fatalf("% X, then % X: %04X", one, two, mustOf16(t, both))
		}
		if b := mustText(t, l); !bytes.Equal(b, both) {
			t.Fatalf("Text(%04X): % X", l, b)
		}
	}
}

// The chapter's examples, as they stand there.
func TestExamples(t *testing.T) {
	b := []byte{0x61, 0xC3, 0xA4, 0xF0, 0x9F, 0x98, 0x80, 0x62}
	want := []uint16{0x0061, 0x00E4, 0xD83D, 0xDE00, 0x0062}
	if n, l := mustOf(t, b), mustOf16(t, b); n != 5 || !slices.Equal(l, want) {
		t.Errorf("%d, %04X", n, l)
	}
	for _, x := range []struct{ units, at int }{{0, 0}, {1, 1}, {2, 3}, {3, 3}, {4, 7}, {5, 8}, {9, 8}} {
		if at := mustOffset(t, b, x.units); at != x.at {
			t.Errorf("Offset %d: %d, not %d", x.units, at, x.at)
		}
	}
	for _, l := range [][]uint16{{0xD83D}, {0xDE00, 0xD83D}, {0x0061, 0xD800, 0x0061}} {
		if b, e := Text(l); len(b) != 0 || e != api.ErrRune {
			t.Errorf("Text(%04X): % X, %d", l, b, e)
		}
	}
}

// R1: no bytes, no number and no units make a call panic or go on for ever.
func FuzzCalls(f *testing.F) {
	f.Add([]byte{0x61, 0xC3, 0xA4, 0xF0, 0x9F, 0x98, 0x80}, 3)
	f.Add([]byte{0xD8, 0x3D, 0xDE, 0x00}, -1)
	f.Add([]byte{0xDE}, math.MaxInt)
	f.Fuzz(func(t *testing.T, b []byte, n int) {
		l, e := Of16(b)
		if utf8.Valid(b) != (e == api.OK) || e == api.OK && !slices.Equal(l, utf16.Encode([]rune(string(b)))) {
			t.Errorf("Of16(% X): %04X, %d", b, l, e)
		}
		at, e := Offset(b, n)
		if e == api.OK && at != placeOf([]rune(string(b)), n) {
			t.Errorf("Offset(% X, %d): %d", b, n, at)
		}
		var units []uint16
		for i := 1; i < len(b); i += 2 {
			units = append(units, uint16(b[i-1])<<8|uint16(b[i]))
		}
		text, e := Text(units)
		if areUnits(units) != (e == api.OK) || e == api.OK && !bytes.Equal(text, textOf(utf16.Decode(units)...)) {
			t.Errorf("Text(%04X): % X, %d", units, text, e)
		}
	})
}
