package lines

import (
	"bytes"
	"math"
	"regexp"
	"slices"
	"strings"
	"testing"
	"unicode/utf8"

	"colophon/api"
	"colophon/runes"
)

// line is one as the tests know it: where it begins, where its plain and its whole form end.
type line struct{ from, plain, whole int }

// lineEnd says what ends a line as the chapter does, to the library.
var lineEnd = regexp.MustCompile("\r\n|\n|\r")

// linesOf are a text's lines by the library.
func linesOf(text string) []line {
	var l []line
	from := 0
	for _, end := range lineEnd.FindAllStringIndex(text, -1) {
		l = append(l, line{from, end[0], end[1]})
		from = end[1]
	}
	return append(l, line{from, len(text), len(text)})
}

// wrong are bytes that are no text, with lines ahead and behind.
var wrong = [][]byte{
	{0xC3},
	{0x61, 0x0A, 0xE2, 0x82},
	{0xF0, 0x9F, 0x98},
	[]byte{0x61, 0xC3, 0xA4}[:2],
	{0xFF},
	{0x0A, 0x80},
	{0xC0, 0x8A},
	{0xC3, 0x0A},
	{0xE2, 0x0D, 0x0A},
	{0xED, 0xA0, 0x80, 0x0D},
	{0xF4, 0x90, 0x80, 0x80},
	{0x0D, 0xFF, 0x0A},
	{0xFF, 0xC3},
}

// someTexts are all rows of up to six of the bytes that matter, rows with longer characters, and long ones.
func someTexts() []string {
	texts := rowsOf(6, "a", "\n", "\r")
	texts = append(texts, rowsOf(4, "\u00e4", "\u20ac", "\U0001F600", "\n", "\r")...)
	// Characters that look like an end, or have its bits, end no line.
	for _, c := range "\x00\t\v\f\x0e\u0085\u008a\u008d\u010a\u010d\u0a0a\u0d0d\u2028\u2029\U0001F60A" {
		texts = append(texts, string(c), "a"+string(c)+"b", "\r"+string(c)+"\n")
	}
	var long strings.Builder
	for i := range 400 {
		long.WriteString([]string{"a", "\n", "bc", "\r\n", "\u20ac", "\r", ""}[i*i*3%7])
		if i%40 == 39 {
			texts = append(texts, long.String())
		}
	}
	return texts
}

// rowsOf are all rows of up to so many pieces.
func rowsOf(most int, pieces ...string) []string {
	rows := []string{""}
	last := rows
	for range most {
		var next []string
		for _, row := range last {
			for _, piece := range pieces {
				next = append(next, row+piece)
			}
		}
		rows = append(rows, next...)
		last = next
	}
	return rows
}

// mustNew is for tests that need an index to begin with.
func mustNew(t *testing.T, text string) *Index {
	t.Helper()
	x, e := New([]byte(text))
	if e != api.OK {
		t.Fatalf("New(%q): %d", text, e)
	}
	return x
}

// mustLine is for tests that need a line to begin with.
func mustLine(t *testing.T, x *Index, n int) (whole, plain api.Span) {
	t.Helper()
	whole, plain, e := x.Line(n)
	if e != api.OK {
		t.Fatalf("Line(%d): %d", n, e)
	}
	return whole, plain
}

// allOf are an index's lines as its calls tell them.
func allOf(t *testing.T, x *Index) []line {
	t.Helper()
	var l []line
	for n := range x.Count() {
		whole, plain := mustLine(t, x, n)
		if whole.From != plain.From {
			t.Fatalf("Line(%d): %v, %v", n, whole, plain)
		}
		l = append(l, line{whole.From, plain.To, whole.To})
	}
	return l
}

// P3.1: an index is had for a text, and for a text alone; runes.Check says which.
func TestNewRefuses(t *testing.T) {
	for _, b := range wrong {
		_, want := runes.Check(b)
		if x, e := New(b); want == api.OK || x != nil || e != want {
			t.Errorf("New(% X): %v, %d; want %d", b, x, e, want)
		}
	}
	for i := range 256 {
		for j := range 256 {
			b := []byte{0x0A, byte(i), byte(j)}
			_, want := runes.Check(b)
			if x, e := New(b); e != want || (x != nil) != (want == api.OK) {
				t.Fatalf("New(% X): %v, %d; want %d", b, x, e, want)
			}
		}
	}
}

// P3.1: what is no index has no lines.
func TestNone(t *testing.T) {
	for _, x := range []*Index{nil, {}, new(Index)} {
		if n := x.Count(); n != 0 {
			t.Errorf("Count: %d", n)
		}
		for n, plain := range x.All() {
			t.Errorf("All: %d, %v", n, plain)
		}
		for _, n := range []int{math.MinInt, -1, 0, 1, math.MaxInt} {
			whole, plain, e := x.Line(n)
			if whole != (api.Span{}) || plain != (api.Span{}) || e != api.ErrNil {
				t.Errorf("Line(%d): %v, %v, %d; want ErrNil", n, whole, plain, e)
			}
			if m, e := x.Find(n); m != 0 || e != api.ErrNil {
				t.Errorf("Find(%d): %d, %d; want ErrNil", n, m, e)
			}
		}
	}
}

// P3.1: a text without a byte has one line, and is an index still.
func TestNothing(t *testing.T) {
	for _, b := range [][]byte{nil, {}, make([]byte, 0, 8), []byte("\n")[:0]} {
		x, e := New(b)
		if e != api.OK || x.Count() != 1 || allOf(t, x)[0] != (line{}) {
			t.Fatalf("%v, %d", x, e)
		}
		if n, e := x.Find(0); n != 0 || e != api.OK {
			t.Errorf("Find(0): %d, %d", n, e)
		}
		if n, e := x.Find(1); n != 0 || e != api.ErrRange {
			t.Errorf("Find(1): %d, %d", n, e)
		}
	}
}

// P3.2: each of the ends, alone, at a text's beginning and end, and beside the others.
func TestEnds(t *testing.T) {
	for _, x := range []struct {
		text string
		want []line
	}{
		{"a", []line{{0, 1, 1}}},
		{"\n", []line{{0, 0, 1}, {1, 1, 1}}},
		{"\r", []line{{0, 0, 1}, {1, 1, 1}}},
		{"\r\n", []line{{0, 0, 2}, {2, 2, 2}}},
		{"\n\r", []line{{0, 0, 1}, {1, 1, 2}, {2, 2, 2}}},
		{"\n\n", []line{{0, 0, 1}, {1, 1, 2}, {2, 2, 2}}},
		{"\r\r", []line{{0, 0, 1}, {1, 1, 2}, {2, 2, 2}}},
		{"\r\r\n", []line{{0, 0, 1}, {1, 1, 3}, {3, 3, 3}}},
		{"\r\n\n", []line{{0, 0, 2}, {2, 2, 3}, {3, 3, 3}}},
		{"\r\n\r\n", []line{{0, 0, 2}, {2, 2, 4}, {4, 4, 4}}},
		{"\n\r\n", []line{{0, 0, 1}, {1, 1, 3}, {3, 3, 3}}},
		{"\ra\n", []line{{0, 0, 1}, {1, 2, 3}, {3, 3, 3}}},
		{"a\r\nb", []line{{0, 1, 3}, {3, 4, 4}}},
		{"\u20ac\n\U0001F600", []line{{0, 3, 4}, {4, 8, 8}}},
		{"a\u2028b\u0085c\vd\fe", []line{{0, 12, 12}}},
	} {
		if l := allOf(t, mustNew(t, x.text)); !slices.Equal(l, x.want) {
			t.Errorf("%q: %v; want %v", x.text, l, x.want)
		}
	}
}

// P3.2: the library is another witness; a 13 whose 10 lies in the spare room has none.
func TestLines(t *testing.T) {
	for _, text := range someTexts() {
		want := linesOf(text)
		if l := allOf(t, mustNew(t, text)); !slices.Equal(l, want) {
			t.Fatalf("%q: %v; want %v", text, l, want)
		}
		room := []byte(text + "\n")
		x, e := New(room[:len(text)])
		if e != api.OK || !slices.Equal(allOf(t, x), want) {
			t.Fatalf("%q, with room: %v, %d; want %v", text, x, e, want)
		}
	}
}

// P3.2: a line that is not there.
func TestLineRefuses(t *testing.T) {
	for _, text := range []string{"", "a", "\n", "a\r\nb", "\r\r\r"} {
		x := mustNew(t, text)
		many := len(linesOf(text))
		for _, n := range []int{math.MinInt, -many, -1, many, many + 1, math.MaxInt32, math.MaxInt} {
			whole, plain, e := x.Line(n)
			if whole != (api.Span{}) || plain != (api.Span{}) || e != api.ErrRange {
				t.Errorf("%q, Line(%d): %v, %v, %d; want ErrRange", text, n, whole, plain, e)
			}
		}
	}
}

// P3.2: all lines are ranged over, in order, each time anew.
func TestAll(t *testing.T) {
	for _, text := range someTexts() {
		all := mustNew(t, text).All()
		want := linesOf(text)
		for range 2 {
			many := 0
			for n, plain := range all {
				if n != many || plain != (api.Span{From: want[n].from, To: want[n].plain}) {
					t.Fatalf("%q: %d, %v behind %d lines; want %v", text, n, plain, many, want)
				}
				many++
			}
			if many != len(want) {
				t.Fatalf("%q: %d lines of %d", text, many, len(want))
			}
		}
	}
}

// P3.2: nothing comes once nobody asks any more.
func TestAllStops(t *testing.T) {
	all := mustNew(t, "a\nb\rc\r\nd").All()
	for most := 1; most <= 4; most++ {
		asked := 0
		all(func(int, api.Span) bool {
			asked++
			return asked < most
		})
		if asked != most {
			t.Errorf("%d lines, where %d were asked for", asked, most)
		}
	}
}

// The ends themselves come no more, either.
func TestEndsStop(t *testing.T) {
	asked := 0
	ends([]byte("a\nb\rc\r\nd"))(func(api.Span) bool {
		asked++
		return asked < 2
	})
	if asked != 2 {
		t.Errorf("%d ends, where 2 were asked for", asked)
	}
}

// P3.3: each byte, and the text's end.
func TestFind(t *testing.T) {
	for _, text := range someTexts() {
		x := mustNew(t, text)
		want := linesOf(text)
		for at := range len(text) + 1 {
			in := len(want) - 1
			for n, l := range want {
				if l.from <= at && at < l.whole {
					in = n
				}
			}
			if n, e := x.Find(at); n != in || e != api.OK {
				t.Fatalf("%q, Find(%d): %d, %d; want %d", text, at, n, e, in)
			}
		}
	}
}

// P3.3: a place that is none.
func TestFindRefuses(t *testing.T) {
	for _, text := range []string{"", "a", "\n", "a\r\n", "a\nbc", "\U0001F600"} {
		x := mustNew(t, text)
		for _, at := range []int{math.MinInt, -len(text) - 1, -1, len(text) + 1, len(text) + 2, math.MaxInt32, math.MaxInt} {
			if n, e := x.Find(at); n != 0 || e != api.ErrRange {
				t.Errorf("%q, Find(%d): %d, %d; want ErrRange", text, at, n, e)
			}
		}
	}
}

// P3.4: bytes and their spare room are as they were, whatever is asked.
func TestOnlyReads(t *testing.T) {
	for _, b := range append([][]byte{nil, []byte("a\nb\r\n\rc"), []byte("a\r")}, wrong...) {
		room := append(bytes.Clone(b), 0x0A, 0xA5, 0xA5, 0xA5)
		was := bytes.Clone(room)
		x, _ := New(room[:len(b)])
		for range x.All() {
			x.Count()
		}
		for n := -1; n <= len(b)+1; n++ {
			x.Line(n)
			x.Find(n)
		}
		if !bytes.Equal(room, was) {
			t.Errorf("% X became % X", was, room)
		}
	}
}

// P3.4: an index stays what it was when the text's bytes are written over.
func TestNotKept(t *testing.T) {
	for _, text := range someTexts() {
		room := []byte(text + "\n")
		x, e := New(room[:len(text)])
		if e != api.OK {
			t.Fatalf("New(%q): %d", text, e)
		}
		all := x.All()
		for i := range room {
			room[i] = "\n\ra"[i%3]
		}
		want := linesOf(text)
		if l := allOf(t, x); !slices.Equal(l, want) {
			t.Fatalf("%q became %v", text, l)
		}
		for n, plain := range all {
			if plain != (api.Span{From: want[n].from, To: want[n].plain}) {
				t.Fatalf("%q: line %d became %v", text, n, plain)
			}
		}
		for n, l := range want {
			if m, e := x.Find(l.from); m != n || e != api.OK {
				t.Fatalf("%q, Find(%d): %d, %d", text, l.from, m, e)
			}
		}
	}
}

// R2: what was asked of one index is not seen in another one, nor in what is asked again.
func TestApart(t *testing.T) {
	one, two := mustNew(t, "a\nb"), mustNew(t, "\r\r\r")
	for range two.All() {
		two.Find(2)
	}
	want := linesOf("a\nb")
	for n, plain := range one.All() {
		plain.From, plain.To = 99, 99
		if m, e := one.Find(want[n].from); m != n || e != api.OK {
			t.Errorf("Find(%d): %d, %d", want[n].from, m, e)
		}
	}
	if l := allOf(t, one); !slices.Equal(l, want) {
		t.Errorf("%v; want %v", l, want)
	}
}

// P3.5: whole lines make the text; plain ones have no end in them, and what a whole one has beside is just one.
func TestWholeLinesAreText(t *testing.T) {
	for _, text := range someTexts() {
		x := mustNew(t, text)
		var again strings.Builder
		for n := range x.Count() {
			whole, plain := mustLine(t, x, n)
			again.WriteString(text[whole.From:whole.To])
			if strings.ContainsAny(text[plain.From:plain.To], "\n\r") {
				t.Fatalf("%q: line %d is %q", text, n, text[plain.From:plain.To])
			}
			end := text[plain.To:whole.To]
			if isEnd := end == "\n" || end == "\r" || end == "\r\n"; isEnd != (n < x.Count()-1) || !isEnd && end != "" {
				t.Fatalf("%q: line %d ends with %q", text, n, end)
			}
		}
		if again.String() != text {
			t.Fatalf("%q became %q", text, again.String())
		}
	}
}

// P3.6: each byte of a whole line is that line's; lines do not fall, and none is left out on the way.
func TestFindHolds(t *testing.T) {
	for _, text := range someTexts() {
		x := mustNew(t, text)
		last := 0
		for at := range len(text) + 1 {
			n, e := x.Find(at)
			if e != api.OK || n < last || n > last+1 {
				t.Fatalf("%q, Find(%d): %d, %d behind %d", text, at, n, e, last)
			}
			last = n
		}
		if last != x.Count()-1 {
			t.Fatalf("%q: its end is on line %d of %d", text, last, x.Count())
		}
		for n := range x.Count() {
			whole, _ := mustLine(t, x, n)
			for at := whole.From; at < whole.To; at++ {
				if m, e := x.Find(at); m != n || e != api.OK {
					t.Fatalf("%q, Find(%d): %d, %d; want %d", text, at, m, e, n)
				}
			}
		}
	}
}

// P3.7: a text behind a text has the lines of both, the ones that meet being one, unless a 13 and a 10 meet.
func TestTextBehindText(t *testing.T) {
	texts := append(rowsOf(3, "a", "\n", "\r"), "\u20ac\r", "\n\U0001F600", "a\r\n", "a\nb\r\n\rc")
	for _, one := range texts {
		for _, two := range texts {
			l := allOf(t, mustNew(t, one+two))
			if strings.HasSuffix(one, "\r") && strings.HasPrefix(two, "\n") {
				if want := linesOf(one + two); !slices.Equal(l, want) {
					t.Fatalf("%q, then %q: %v; want %v", one, two, l, want)
				}
				continue
			}
			ahead, behind := allOf(t, mustNew(t, one)), allOf(t, mustNew(t, two))
			for n := range behind {
				behind[n].from += len(one)
				behind[n].plain += len(one)
				behind[n].whole += len(one)
			}
			behind[0].from = ahead[len(ahead)-1].from
			if want := append(ahead[:len(ahead)-1], behind...); !slices.Equal(l, want) {
				t.Fatalf("%q, then %q: %v; want %v", one, two, l, want)
			}
		}
	}
}

// The chapter's examples, as they stand there.
func TestExamples(t *testing.T) {
	x := mustNew(t, "a\nb\r\n\rc")
	want := []line{{0, 1, 2}, {2, 3, 5}, {5, 5, 6}, {6, 7, 7}}
	if l := allOf(t, x); x.Count() != 4 || !slices.Equal(l, want) {
		t.Errorf("%d: %v", x.Count(), l)
	}
	if _, _, e := x.Line(4); e != api.ErrRange {
		t.Errorf("Line(4): %d", e)
	}
	for _, c := range []struct{ at, n int }{{0, 0}, {1, 0}, {4, 1}, {5, 2}, {7, 3}} {
		if n, e := x.Find(c.at); n != c.n || e != api.OK {
			t.Errorf("Find(%d): %d, %d", c.at, n, e)
		}
	}
	if n, e := x.Find(8); n != 0 || e != api.ErrRange {
		t.Errorf("Find(8): %d, %d", n, e)
	}
}

// R1: no bytes and no number make a call panic or go on for ever.
func FuzzCalls(f *testing.F) {
	f.Add([]byte("a\nb\r\n\rc"), 4)
	f.Add([]byte{0xC3, 0x0A}, -1)
	f.Add([]byte("\r"), math.MaxInt)
	f.Fuzz(func(t *testing.T, b []byte, n int) {
		x, e := New(b)
		if utf8.Valid(b) != (e == api.OK) {
			t.Fatalf("New(% X): %d", b, e)
		}
		_, _, f := x.Line(n)
		_, g := x.Find(n)
		if e != api.OK {
			if x != nil || f != api.ErrNil || g != api.ErrNil {
				t.Errorf("% X, %d: %v, %d, %d", b, n, x, f, g)
			}
			return
		}
		want := linesOf(string(b))
		if !slices.Equal(allOf(t, x), want) {
			t.Errorf("% X: %v; want %v", b, allOf(t, x), want)
		}
		if (f == api.OK) != (0 <= n && n < len(want)) || (g == api.OK) != (0 <= n && n <= len(b)) {
			t.Errorf("% X, %d: %d, %d", b, n, f, g)
		}
	})
}
