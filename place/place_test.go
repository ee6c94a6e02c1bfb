package place

import (
	"bytes"
	"math"
	"regexp"
	"strings"
	"testing"
	"unicode/utf16"
	"unicode/utf8"

	"colophon/api"
	"colophon/lines"
	"colophon/runes"
)

// example is the chapter's text.
const example = "a\u00e4\U0001F600\nb"

// wrong are bytes that are no text, with lines ahead and behind.
var wrong = [][]byte{
	{0xC3},
	{0x61, 0x0A, 0xE2, 0x82},
	{0xF0, 0x9F, 0x98},
	[]byte{0x61, 0xC3, 0xA4}[:2],
	{0xFF},
	{0x0A, 0x80},
	{0xC3, 0x0A},
	{0xED, 0xA0, 0x80, 0x0D},
	{0xF4, 0x90, 0x80, 0x80},
	{0x0D, 0xFF, 0x0A},
	{0xFF, 0xC3},
}

// lineEnd says what ends a line as chapter 3 does, to the library.
var lineEnd = regexp.MustCompile("\r\n|\n|\r")

// plainLines are a text's lines by the library, without what ends them.
func plainLines(text string) []api.Span {
	var l []api.Span
	from := 0
	for _, end := range lineEnd.FindAllStringIndex(text, -1) {
		l = append(l, api.Span{From: from, To: end[0]})
		from = end[1]
	}
	return append(l, api.Span{From: from, To: len(text)})
}

// unitsOf is how many units a text has by the library.
func unitsOf(text string) int {
	return len(utf16.Encode([]rune(text)))
}

// placeOf is a byte's place by the chapter's words.
func placeOf(text string, at int) api.Pos {
	l := plainLines(text)
	n := len(l) - 1
	for l[n].From > at {
		n--
	}
	to := min(at, l[n].To)
	for to < len(text) && !utf8.RuneStart(text[to]) {
		to--
	}
	return api.Pos{Line: n, Char: unitsOf(text[l[n].From:to])}
}

// byteOf is a place's byte by the chapter's words: of the places between a line's characters the last one with at most so many units ahead.
func byteOf(text string, p api.Pos) int {
	l := plainLines(text)
	if p.Line >= len(l) {
		return len(text)
	}
	plain := text[l[p.Line].From:l[p.Line].To]
	last := 0
	for at := 0; at <= len(plain); at++ {
		between := at == len(plain) || utf8.RuneStart(plain[at])
		if between && unitsOf(plain[:at]) <= p.Char {
			last = at
		}
	}
	return l[p.Line].From + last
}

// inEnd tells whether a byte has some of what ends its line ahead of it; the first byte of that is where the plain line ends, so it is come back to.
func inEnd(text string, at int) bool {
	return at > 0 && at < len(text) && text[at-1] == '\r' && text[at] == '\n'
}

// someTexts are all rows of up to four of the characters that matter, and long ones.
func someTexts() []string {
	rows := []string{""}
	last := rows
	for range 4 {
		var next []string
		for _, row := range last {
			for _, piece := range []string{"a", "\u00e4", "\u20ac", "\U0001F600", "\n", "\r"} {
				next = append(next, row+piece)
			}
		}
		rows = append(rows, next...)
		last = next
	}
	var long strings.Builder
	for i := range 60 {
		long.WriteString([]string{"a", "\n", "\u00e4\U0001F600", "\r\n", "\u20ac", "\r", "\U0010FFFF\uFFFF", "\u2028\u0085"}[i*i*3%11%8])
		if i%20 == 19 {
			rows = append(rows, long.String())
		}
	}
	return append(rows, "\uFEFFa\x00\nb", strings.Repeat("\U0001F600", 20), strings.Repeat("\r\n", 20))
}

// somePlaces are all places of a text, with those beyond each line, and lines beyond the last one, in order.
func somePlaces(text string) []api.Pos {
	var l []api.Pos
	all := plainLines(text)
	for n, plain := range all {
		for char := range unitsOf(text[plain.From:plain.To]) + 3 {
			l = append(l, api.Pos{Line: n, Char: char})
		}
		l = append(l, api.Pos{Line: n, Char: math.MaxInt})
	}
	for _, n := range []int{len(all), len(all) + 1, math.MaxInt32, math.MaxInt} {
		l = append(l, api.Pos{Line: n}, api.Pos{Line: n, Char: 1}, api.Pos{Line: n, Char: math.MaxInt})
	}
	return l
}

// mustNew is for tests that need a map to begin with.
func mustNew(t *testing.T, text string) *Map {
	t.Helper()
	m, e := New([]byte(text))
	if e != api.OK {
		t.Fatalf("New(%q): %d", text, e)
	}
	return m
}

// mustOffset is for tests that need a place's byte to begin with.
func mustOffset(t *testing.T, m *Map, p api.Pos) int {
	t.Helper()
	at, e := m.Offset(p)
	if e != api.OK {
		t.Fatalf("Offset(%v): %d", p, e)
	}
	return at
}

// mustPos is for tests that need a byte's place to begin with.
func mustPos(t *testing.T, m *Map, at int) api.Pos {
	t.Helper()
	p, e := m.Pos(at)
	if e != api.OK {
		t.Fatalf("Pos(%d): %d", at, e)
	}
	return p
}

// after tells whether a place is behind another one, by the chapter's words.
func after(p, q api.Pos) bool {
	return q.Line < p.Line || q.Line == p.Line && q.Char < p.Char
}

// P4.1: a map is had for a text, and for a text alone; runes.Check says which.
func TestNewRefuses(t *testing.T) {
	for _, b := range wrong {
		_, want := runes.Check(b)
		if m, e := New(b); want == api.OK || m != nil || e != want {
			t.Errorf("New(% X): %v, %d; want %d", b, m, e, want)
		}
	}
	for i := range 256 {
		for j := range 256 {
			b := []byte{0x0A, byte(i), byte(j)}
			_, want := runes.Check(b)
			if m, e := New(b); e != want || (m != nil) != (want == api.OK) {
				t.Fatalf("New(% X): %v, %d; want %d", b, m, e, want)
			}
		}
	}
}

// P4.1: what is no map says so, ahead of all that is wrong with what it is handed.
func TestNone(t *testing.T) {
	x, e := lines.New([]byte("a\nb"))
	if e != api.OK {
		t.Fatal(e)
	}
	for _, m := range []*Map{nil, {}, new(Map), {Index: x}} {
		for _, n := range []int{math.MinInt, -1, 0, 1, math.MaxInt} {
			p := api.Pos{Line: n, Char: n}
			if at, e := m.Offset(p); at != 0 || e != api.ErrNil {
				t.Errorf("Offset(%v): %d, %d; want ErrNil", p, at, e)
			}
			if q, e := m.Pos(n); q != (api.Pos{}) || e != api.ErrNil {
				t.Errorf("Pos(%d): %v, %d; want ErrNil", n, q, e)
			}
			if s, e := m.Span(api.Range{From: p}); s != (api.Span{}) || e != api.ErrNil {
				t.Errorf("Span from %v: %v, %d; want ErrNil", p, s, e)
			}
			if r, e := m.Range(api.Span{From: n}); r != (api.Range{}) || e != api.ErrNil {
				t.Errorf("Range from %d: %v, %d; want ErrNil", n, r, e)
			}
		}
		if p := m.End(); p != (api.Pos{}) {
			t.Errorf("End: %v", p)
		}
	}
}

// P4.1: a text without a byte has a map still, with one place.
func TestNothing(t *testing.T) {
	for _, b := range [][]byte{nil, {}, make([]byte, 0, 8), []byte("a")[:0]} {
		m, e := New(b)
		if e != api.OK || m.End() != (api.Pos{}) {
			t.Fatalf("%v, %d", m, e)
		}
		if p, e := m.Pos(0); p != (api.Pos{}) || e != api.OK {
			t.Errorf("Pos(0): %v, %d", p, e)
		}
		if p, e := m.Pos(1); p != (api.Pos{}) || e != api.ErrRange {
			t.Errorf("Pos(1): %v, %d", p, e)
		}
		for _, p := range somePlaces("") {
			if at, e := m.Offset(p); at != 0 || e != api.OK {
				t.Errorf("Offset(%v): %d, %d", p, at, e)
			}
		}
		if s, e := m.Span(api.Range{}); s != (api.Span{}) || e != api.OK {
			t.Errorf("Span: %v, %d", s, e)
		}
		if r, e := m.Range(api.Span{}); r != (api.Range{}) || e != api.OK {
			t.Errorf("Range: %v, %d", r, e)
		}
	}
}

// P4.2: each place that there is, and those beyond a line and the text.
func TestOffset(t *testing.T) {
	for _, text := range someTexts() {
		m := mustNew(t, text)
		for _, p := range somePlaces(text) {
			if at, e := m.Offset(p); at != byteOf(text, p) || e != api.OK {
				t.Fatalf("%q, Offset(%v): %d, %d; want %d", text, p, at, e, byteOf(text, p))
			}
		}
	}
}

// P4.2: a place below 0 is none, even on a line beyond the last one.
func TestOffsetRefuses(t *testing.T) {
	for _, text := range []string{"", "a", "\n", example} {
		m := mustNew(t, text)
		for _, low := range []int{-1, -2, math.MinInt32, math.MinInt} {
			for _, p := range []api.Pos{{Line: low}, {Char: low}, {Line: low, Char: low}, {Line: low, Char: 1}, {Line: 1, Char: low}, {Line: 9, Char: low}, {Line: math.MaxInt, Char: low}} {
				if at, e := m.Offset(p); at != 0 || e != api.ErrRange {
					t.Errorf("%q, Offset(%v): %d, %d; want ErrRange", text, p, at, e)
				}
			}
		}
	}
}

// P4.2: each byte, in characters and in what ends a line, too; the text's end.
func TestPos(t *testing.T) {
	for _, text := range someTexts() {
		m := mustNew(t, text)
		for at := range len(text) + 1 {
			if p, e := m.Pos(at); p != placeOf(text, at) || e != api.OK {
				t.Fatalf("%q, Pos(%d): %v, %d; want %v", text, at, p, e, placeOf(text, at))
			}
		}
	}
}

// P4.2: a byte that is none, spare room behind the text or not.
func TestPosRefuses(t *testing.T) {
	for _, text := range []string{"", "a", "\n", "a\r\n", example} {
		room := []byte(text + "\nb")
		m, e := New(room[:len(text)])
		if e != api.OK {
			t.Fatalf("New(%q): %d", text, e)
		}
		for _, at := range []int{math.MinInt, -len(text) - 1, -1, len(text) + 1, len(text) + 2, math.MaxInt32, math.MaxInt} {
			if p, e := m.Pos(at); p != (api.Pos{}) || e != api.ErrRange {
				t.Errorf("%q, Pos(%d): %v, %d; want ErrRange", text, at, p, e)
			}
		}
	}
}

// P4.2: each of a line's ends: its bytes have the plain line's end, what is behind it begins a line.
func TestLineEnds(t *testing.T) {
	m := mustNew(t, "\u20ac\r\n\U0001F600\r\rb\n")
	for at, want := range []api.Pos{{}, {}, {}, {Char: 1}, {Char: 1}, {Line: 1}, {Line: 1}, {Line: 1}, {Line: 1}, {Line: 1, Char: 2}, {Line: 2}, {Line: 3}, {Line: 3, Char: 1}, {Line: 4}} {
		if p, e := m.Pos(at); p != want || e != api.OK {
			t.Errorf("Pos(%d): %v, %d; want %v", at, p, e, want)
		}
	}
	for _, x := range []struct {
		p    api.Pos
		want int
	}{{api.Pos{Char: 2}, 3}, {api.Pos{Line: 1, Char: 1}, 5}, {api.Pos{Line: 1, Char: 3}, 9}, {api.Pos{Line: 2, Char: 1}, 10}, {api.Pos{Line: 3, Char: 2}, 12}, {api.Pos{Line: 4, Char: 1}, 13}} {
		if at, e := m.Offset(x.p); at != x.want || e != api.OK {
			t.Errorf("Offset(%v): %d, %d; want %d", x.p, at, e, x.want)
		}
	}
}

// P4.2: the text's end.
func TestEnd(t *testing.T) {
	for _, text := range someTexts() {
		if p := mustNew(t, text).End(); p != placeOf(text, len(text)) {
			t.Fatalf("%q, End: %v; want %v", text, p, placeOf(text, len(text)))
		}
	}
	for text, want := range map[string]api.Pos{"": {}, "a\n": {Line: 1}, "\r": {Line: 1}, "\r\n": {Line: 1}, "\r\r\U0001F600": {Line: 2, Char: 2}} {
		if p := mustNew(t, text).End(); p != want {
			t.Errorf("%q, End: %v; want %v", text, p, want)
		}
	}
}

// P4.3: two places, in order by their bytes or not: places out of order that have one byte are well.
func TestSpan(t *testing.T) {
	for _, text := range []string{"", "\n", example, "\u20ac\r\n\rb", "a\n\U0001F600"} {
		m := mustNew(t, text)
		for _, from := range somePlaces(text) {
			for _, to := range somePlaces(text) {
				want, wrong := api.Span{From: byteOf(text, from), To: byteOf(text, to)}, api.OK
				if want.To < want.From {
					want, wrong = api.Span{}, api.ErrArg
				}
				if s, e := m.Span(api.Range{From: from, To: to}); s != want || e != wrong {
					t.Fatalf("%q, Span(%v to %v): %v, %d; want %v, %d", text, from, to, s, e, want, wrong)
				}
			}
		}
	}
}

// P4.3: two bytes, in order or not: bytes out of order that have one place are refused still.
func TestRange(t *testing.T) {
	for _, text := range []string{"", "\n", example, "\u20ac\r\n\rb", "a\n\U0001F600"} {
		m := mustNew(t, text)
		for from := range len(text) + 1 {
			for to := range len(text) + 1 {
				want, wrong := api.Range{From: placeOf(text, from), To: placeOf(text, to)}, api.OK
				if to < from {
					want, wrong = api.Range{}, api.ErrArg
				}
				if r, e := m.Range(api.Span{From: from, To: to}); r != want || e != wrong {
					t.Fatalf("%q, Range(%d to %d): %v, %d; want %v, %d", text, from, to, r, e, want, wrong)
				}
			}
		}
	}
}

// P4.3: a place that is none is told ahead of an order that is none.
func TestSpanRefuses(t *testing.T) {
	m := mustNew(t, example)
	well, late := api.Pos{Char: 1}, api.Pos{Line: 9, Char: 9}
	for _, none := range []api.Pos{{Line: -1}, {Char: -1}, {Line: math.MinInt, Char: math.MinInt}, {Line: 9, Char: -1}} {
		for _, r := range []api.Range{{From: none, To: well}, {From: well, To: none}, {From: late, To: none}, {From: none, To: late}, {From: none, To: none}} {
			if s, e := m.Span(r); s != (api.Span{}) || e != api.ErrRange {
				t.Errorf("Span(%v): %v, %d; want ErrRange", r, s, e)
			}
		}
	}
	if s, e := m.Span(api.Range{From: api.Pos{Line: 1}, To: well}); s != (api.Span{}) || e != api.ErrArg {
		t.Errorf("Span: %v, %d; want ErrArg", s, e)
	}
}

// P4.3: a byte that is none, likewise.
func TestRangeRefuses(t *testing.T) {
	m := mustNew(t, example)
	for _, none := range []int{math.MinInt, -1, len(example) + 1, math.MaxInt} {
		for _, s := range []api.Span{{From: none, To: 1}, {From: 1, To: none}, {From: len(example), To: none}, {From: none, To: 0}, {From: none, To: none}} {
			if r, e := m.Range(s); r != (api.Range{}) || e != api.ErrRange {
				t.Errorf("Range(%v): %v, %d; want ErrRange", s, r, e)
			}
		}
	}
	if r, e := m.Range(api.Span{From: 5, To: 4}); r != (api.Range{}) || e != api.ErrArg {
		t.Errorf("Range: %v, %d; want ErrArg", r, e)
	}
}

// P4.4: bytes and their spare room are as they were, whatever is asked.
func TestOnlyReads(t *testing.T) {
	for _, b := range append([][]byte{nil, []byte(example), []byte("a\r")}, wrong...) {
		room := append(bytes.Clone(b), 0x0A, 0xA5, 0xA5, 0xA5)
		was := bytes.Clone(room)
		m, _ := New(room[:len(b)])
		for n := -1; n <= len(b)+1; n++ {
			m.Offset(api.Pos{Line: n, Char: n})
			m.Pos(n)
			m.Span(api.Range{To: api.Pos{Line: n}})
			m.Range(api.Span{To: n})
		}
		m.End()
		if !bytes.Equal(room, was) {
			t.Errorf("% X became % X", was, room)
		}
	}
}

// P4.4: a map stays what it was when the text's bytes are written over.
func TestNotKept(t *testing.T) {
	for _, text := range someTexts() {
		room := []byte(text + "\n")
		m, e := New(room[:len(text)])
		if e != api.OK {
			t.Fatalf("New(%q): %d", text, e)
		}
		for i := range room {
			room[i] = "\n\ra\xFF"[i%4]
		}
		for _, p := range somePlaces(text) {
			if at := mustOffset(t, m, p); at != byteOf(text, p) {
				t.Fatalf("%q, Offset(%v) became %d", text, p, at)
			}
		}
		for at := range len(text) + 1 {
			if p := mustPos(t, m, at); p != placeOf(text, at) {
				t.Fatalf("%q, Pos(%d) became %v", text, at, p)
			}
		}
		if p := m.End(); p != placeOf(text, len(text)) {
			t.Fatalf("%q, End became %v", text, p)
		}
	}
}

// R2: what was asked of one map is not seen in another one, nor in what is asked again.
func TestApart(t *testing.T) {
	one, two := mustNew(t, example), mustNew(t, "\r\r\rabc")
	for range 2 {
		for at := range len(example) + 1 {
			two.Pos(6 - min(at, 6))
			two.Offset(api.Pos{Line: at, Char: at})
			if p := mustPos(t, one, at); p != placeOf(example, at) {
				t.Errorf("Pos(%d): %v", at, p)
			}
			if q := mustOffset(t, one, api.Pos{Char: at}); q != byteOf(example, api.Pos{Char: at}) {
				t.Errorf("Offset(0:%d): %d", at, q)
			}
		}
	}
}

// P4.5: a byte between characters, and not in what ends a line, is come back to.
func TestOffsetTakesBackPos(t *testing.T) {
	for _, text := range someTexts() {
		m := mustNew(t, text)
		for at := range len(text) + 1 {
			if at < len(text) && !utf8.RuneStart(text[at]) || inEnd(text, at) {
				continue
			}
			if back := mustOffset(t, m, mustPos(t, m, at)); back != at {
				t.Fatalf("%q: byte %d became %d", text, at, back)
			}
		}
	}
}

// P4.5: a place that there is is come back to; halves of a pair are none.
func TestPosTakesBackOffset(t *testing.T) {
	for _, text := range someTexts() {
		m := mustNew(t, text)
		for n, plain := range plainLines(text) {
			p := api.Pos{Line: n}
			for _, c := range text[plain.From:plain.To] + "\n" {
				if back := mustPos(t, m, mustOffset(t, m, p)); back != p {
					t.Fatalf("%q: %v became %v", text, p, back)
				}
				p.Char += utf16.RuneLen(c)
			}
		}
	}
}

// P4.6: bytes in order have places in order, or the same.
func TestPosRises(t *testing.T) {
	for _, text := range someTexts() {
		m := mustNew(t, text)
		last := api.Pos{}
		for at := range len(text) + 1 {
			p := mustPos(t, m, at)
			if after(last, p) {
				t.Fatalf("%q, Pos(%d): %v behind %v", text, at, p, last)
			}
			last = p
		}
		if last != m.End() {
			t.Fatalf("%q: %v; want %v", text, last, m.End())
		}
	}
}

// P4.6: places in order have bytes in order, or the same.
func TestOffsetRises(t *testing.T) {
	for _, text := range someTexts() {
		m := mustNew(t, text)
		last := 0
		for _, p := range somePlaces(text) {
			at := mustOffset(t, m, p)
			if at < last {
				t.Fatalf("%q, Offset(%v): %d behind %d", text, p, at, last)
			}
			last = at
		}
		if last != len(text) {
			t.Fatalf("%q: %d; want %d", text, last, len(text))
		}
	}
}

// P4.7: a place beyond its line, or the text, is as the last one there, and asked for again it is the same.
func TestBeyond(t *testing.T) {
	for _, text := range someTexts() {
		m := mustNew(t, text)
		for _, p := range somePlaces(text) {
			last := m.End()
			if l := plainLines(text); p.Line < len(l) {
				plain := text[l[p.Line].From:l[p.Line].To]
				if p.Char < unitsOf(plain) {
					continue
				}
				last = api.Pos{Line: p.Line, Char: unitsOf(plain)}
			}
			at := mustOffset(t, m, p)
			back := mustPos(t, m, at)
			if back != last || mustOffset(t, m, back) != at || mustOffset(t, m, last) != at {
				t.Fatalf("%q: %v is %d, then %v; want %v", text, p, at, back, last)
			}
		}
	}
}

// A map has its lines' calls.
func TestPromoted(t *testing.T) {
	m := mustNew(t, example)
	whole, plain, e := m.Line(0)
	if m.Count() != 2 || whole != (api.Span{To: 8}) || plain != (api.Span{To: 7}) || e != api.OK {
		t.Errorf("%d: %v, %v, %d", m.Count(), whole, plain, e)
	}
	if n, e := m.Find(8); n != 1 || e != api.OK {
		t.Errorf("Find(8): %d, %d", n, e)
	}
	for n, plain := range m.All() {
		if plain != plainLines(example)[n] {
			t.Errorf("line %d: %v", n, plain)
		}
	}
}

// The chapter's examples, as they stand there.
func TestExamples(t *testing.T) {
	m := mustNew(t, example)
	for _, c := range []struct{ line, char, want int }{{0, 0, 0}, {0, 1, 1}, {0, 2, 3}, {0, 3, 3}, {0, 4, 7}, {0, 9, 7}, {1, 1, 9}, {7, 0, 9}} {
		if at, e := m.Offset(api.Pos{Line: c.line, Char: c.char}); at != c.want || e != api.OK {
			t.Errorf("Offset(%d:%d): %d, %d", c.line, c.char, at, e)
		}
	}
	for _, c := range []struct{ at, line, char int }{{0, 0, 0}, {2, 0, 1}, {3, 0, 2}, {5, 0, 2}, {7, 0, 4}, {8, 1, 0}, {9, 1, 1}} {
		if p, e := m.Pos(c.at); p != (api.Pos{Line: c.line, Char: c.char}) || e != api.OK {
			t.Errorf("Pos(%d): %v, %d", c.at, p, e)
		}
	}
	if p, e := m.Pos(10); p != (api.Pos{}) || e != api.ErrRange {
		t.Errorf("Pos(10): %v, %d", p, e)
	}
	one, two := api.Pos{Char: 1}, api.Pos{Line: 1}
	if s, e := m.Span(api.Range{From: one, To: two}); s != (api.Span{From: 1, To: 8}) || e != api.OK {
		t.Errorf("Span: %v, %d", s, e)
	}
	if s, e := m.Span(api.Range{From: two, To: one}); s != (api.Span{}) || e != api.ErrArg {
		t.Errorf("Span: %v, %d", s, e)
	}
	if at, e := m.Offset(api.Pos{Line: -1}); at != 0 || e != api.ErrRange {
		t.Errorf("Offset(-1:0): %d, %d", at, e)
	}
}

// R1: no bytes and no numbers make a call panic or go on for ever.
func FuzzCalls(f *testing.F) {
	f.Add([]byte(example), 0, 3)
	f.Add([]byte{0xC3, 0x0A}, -1, 0)
	f.Add([]byte("\r\n"), 1, math.MaxInt)
	f.Fuzz(func(t *testing.T, b []byte, one, two int) {
		m, e := New(b)
		p := api.Pos{Line: one, Char: two}
		at, atWrong := m.Offset(p)
		pos, posWrong := m.Pos(one)
		m.Span(api.Range{From: p, To: api.Pos{Line: two, Char: one}})
		m.Range(api.Span{From: one, To: two})
		m.End()
		if utf8.Valid(b) != (e == api.OK) {
			t.Fatalf("New(% X): %d", b, e)
		}
		if e != api.OK {
			if m != nil || atWrong != api.ErrNil || posWrong != api.ErrNil {
				t.Errorf("% X: %v, %d, %d", b, m, atWrong, posWrong)
			}
			return
		}
		if well := one >= 0 && two >= 0; well != (atWrong == api.OK) || well && at != byteOf(string(b), p) {
			t.Errorf("% X, Offset(%v): %d, %d", b, p, at, atWrong)
		}
		if well := one >= 0 && one <= len(b); well != (posWrong == api.OK) || well && pos != placeOf(string(b), one) {
			t.Errorf("% X, Pos(%d): %v, %d", b, one, pos, posWrong)
		}
	})
}
