package escape

import (
	"bytes"
	"encoding/json"
	"fmt"
	"math"
	"strings"
	"testing"
	"unicode/utf16"
	"unicode/utf8"

	"colophon/api"
)

// quotes holds Quote to an answer.
func quotes(t *testing.T, s, want string, e api.Errno) {
	t.Helper()
	if got, f := Quote(s); got != want || f != e {
		t.Errorf("Quote(%q): %q, %d; want %q, %d", s, got, f, want, e)
	}
}

// tells holds Unquote to an answer.
func tells(t *testing.T, b string, at int, s string, next int, e api.Errno) {
	t.Helper()
	if got, n, f := Unquote([]byte(b), at); got != s || n != next || f != e {
		t.Errorf("Unquote(%q, %d): %q, %d, %d; want %q, %d, %d", b, at, got, n, f, s, next, e)
	}
}

// quoted is a text with its escapes, as the chapter's words say.
func quoted(s string) string {
	b := `"`
	for _, c := range s {
		switch c {
		case '"':
			b += `\"`
		case '\\':
			b += `\\`
		case 8:
			b += `\b`
		case 12:
			b += `\f`
		case 10:
			b += `\n`
		case 13:
			b += `\r`
		case 9:
			b += `\t`
		default:
			if c < 32 {
				b += fmt.Sprintf(`\u%04x`, c)
			} else {
				b += string(c)
			}
		}
	}
	return b + `"`
}

// Where a witness stands that goes a byte at a time.
const (
	ahead = iota
	within
	cut
	slashed
	digit1
	digit2
	digit3
	digit4
)

// goes is where the witness stands behind a byte within a string, and the bytes of a character that are not all there.
func goes(state int, piece []byte, x byte) (int, []byte, api.Errno) {
	switch {
	case state == slashed && x == 'u':
		return digit1, nil, api.OK
	case state == slashed && strings.IndexByte(`"\/bfnrt`, x) >= 0:
		return within, nil, api.OK
	case state >= digit1 && strings.IndexByte("0123456789abcdefABCDEF", x) >= 0:
		return map[int]int{digit1: digit2, digit2: digit3, digit3: digit4, digit4: within}[state], nil, api.OK
	case state != within && state != cut || state == within && x < 32:
		return 0, nil, api.ErrEscape
	case state == within && x == '\\':
		return slashed, nil, api.OK
	}
	piece = append(piece, x)
	if !utf8.FullRune(piece) {
		return cut, piece, api.OK
	}
	if !utf8.Valid(piece) {
		return 0, nil, api.ErrRune
	}
	return within, nil, api.OK
}

// witness is what is told of bytes: where the string ends a byte at a time, and what it tells by the library's JSON.
func witness(b []byte, at int) (s string, next int, e api.Errno) {
	if at < 0 || at > len(b) {
		return "", 0, api.ErrRange
	}
	state := ahead
	var piece []byte
	for i := at; i < len(b); i++ {
		switch {
		case state == ahead && b[i] != '"':
			return "", 0, api.ErrEscape
		case state == ahead:
			state = within
		case state == within && b[i] == '"':
			if json.Unmarshal(b[at:i+1], &s) != nil {
				panic("a string that the library does not read: " + string(b[at:i+1]))
			}
			return s, i + 1, api.OK
		default:
			state, piece, e = goes(state, piece, b[i])
			if e != api.OK {
				return "", 0, e
			}
		}
	}
	if state == cut {
		return "", 0, api.ErrRune
	}
	return "", 0, api.ErrTrunc
}

// reads holds Unquote to the witness, and what it tells to P8.5.
func reads(t *testing.T, b []byte, at int) {
	t.Helper()
	s, next, e := Unquote(b, at)
	if want, n, f := witness(b, at); s != want || next != n || e != f {
		t.Errorf("Unquote(%q, %d): %q, %d, %d; want %q, %d, %d", b, at, s, next, e, want, n, f)
	}
	if e == api.OK {
		follows(t, s, next-at)
	}
}

// follows holds what a string of so many bytes tells to P8.5.
func follows(t *testing.T, s string, size int) {
	t.Helper()
	if !utf8.ValidString(s) || len(s) > size-2 {
		t.Errorf("a string of %d bytes tells %q", size, s)
	}
	again, e := Quote(s)
	if e != api.OK {
		t.Errorf("Quote(%q): %d", s, e)
	}
	tells(t, again, 0, s, len(again), api.OK)
}

// strung are strings that tell something: ordinary ones, all escapes, characters of each form.
func strung() []string {
	return []string{
		`""`, `"a"`, `"hello, world"`, `"\""`, `"\\"`, `"\/"`, `"/"`, `"\b\f\n\r\t"`, `"\\u0041"`, `"\\\""`, `"\u0000"`, `"\u0041\/\t"`, `"\u00E4\u00e4"`, `"\uFFFD"`, `"\uFFFF"`,
		`"\ud83d\ude00"`, `"\uD800\uDC00\uDBFF\uDFFF"`, `"\ud83d"`, `"\ude00"`, `"\ude00\ud83d"`, `"\ud83d\ud83d\ude00"`, `"\ud83dx"`, `"\ud83d\u0041"`, `"\ud83d\n\ude00"`,
		"\"\x7F\u0080\u07FF\u0800\uD7FF\uE000\uFFFD\uFFFF\U00010000\U0010FFFF\"", "\"a\u00E4\u20AC\U0001F600\"", "\"\\ud83d\U0001F600\\ude00\"",
	}
}

// notText are bytes that are no UTF-8; pieces, whole ones that may not be, and what may begin nothing.
func notText() []string {
	return []string{
		"\x80", "\xBF", "\xC0\x80", "\xC1\xBF", "\xC3", "\xC3A", "\xC3\xC3", "\xE0\x80\x80", "\xE0\x9F\xBF", "\xE2\x82", "\xE2\x82A", "\xE2A", "\xED\xA0\x80", "\xED\xBF\xBF",
		"\xED\xA0\xBD\xED\xB8\x80", "\xF0\x8F\xBF\xBF", "\xF0\x9F\x98", "\xF0\x9F\x98A", "\xF4\x90\x80\x80", "\xF5\x80\x80\x80", "\xF8\x88\x80\x80\x80", "\xFE", "\xFF", "\xC3\xA4\xA4",
	}
}

// rows are all rows of up to so many of these parts.
func rows(of []string, most int) []string {
	l := []string{""}
	last := l
	for range most {
		var next []string
		for _, s := range last {
			for _, part := range of {
				next = append(next, s+part)
			}
		}
		l = append(l, next...)
		last = next
	}
	return l
}

// The chapter's examples.
func TestExamples(t *testing.T) {
	quotes(t, "a\"\n\x01", `"a\"\n\u0001"`, api.OK)
	tells(t, `"\u0041\/\t"`, 0, "A/\t", 12, api.OK)
	tells(t, `"\ud83d\ude00"`, 0, "\U0001F600", 14, api.OK)
	tells(t, `"\ud83dx"`, 0, "\uFFFDx", 9, api.OK)
	tells(t, `"\ude00\ud83d"`, 0, "\uFFFD\uFFFD", 14, api.OK)
	tells(t, `"a`, 0, "", 0, api.ErrTrunc)
	tells(t, `x`, 0, "", 0, api.ErrEscape)
	tells(t, `"\x"`, 0, "", 0, api.ErrEscape)
	tells(t, `"\u12g4"`, 0, "", 0, api.ErrEscape)
}

// P8.1: each character below 128 is written down.
func TestQuotePlain(t *testing.T) {
	escapes := strings.Fields(`\u0000 \u0001 \u0002 \u0003 \u0004 \u0005 \u0006 \u0007 \b \t \n \u000b \f \r \u000e \u000f \u0010 \u0011 \u0012 \u0013 \u0014 \u0015 \u0016 \u0017 \u0018 \u0019 \u001a \u001b \u001c \u001d \u001e \u001f`)
	for c := range 128 {
		s := string(rune(c))
		want := s
		switch {
		case c < 32:
			want = escapes[c]
		case s == `"` || s == `\`:
			want = `\` + s
		}
		quotes(t, s, `"`+want+`"`, api.OK)
		quotes(t, s+s, `"`+want+want+`"`, api.OK)
		quotes(t, "a"+s+"\u20AC", `"a`+want+"\u20AC\"", api.OK)
	}
}

// P8.1: texts of several characters, in order.
func TestQuoteTexts(t *testing.T) {
	for s, want := range map[string]string{
		"": `""`, "a": `"a"`, "/": `"/"`, "a/b": `"a/b"`, `\u0041`: `"\\u0041"`, `\"`: `"\\\""`, "<&>": `"<&>"`, "\x7F": "\"\x7F\"",
		"\u2028\u2029": "\"\u2028\u2029\"", "\uFFFD": "\"\uFFFD\"", "\uFEFFa": "\"\uFEFFa\"", "\u00E4\u00DF\U0001F600": "\"\u00E4\u00DF\U0001F600\"",
		"\r\n": `"\r\n"`, "\x00\x1F": `"\u0000\u001f"`, "\x1B[0m": `"\u001b[0m"`,
	} {
		quotes(t, s, want, api.OK)
	}
	for _, s := range rows([]string{`"`, `\`, "/", "u", "\n", "\x00", "\x1E", "\u00E4", "\U0001F600"}, 5) {
		quotes(t, s, quoted(s), api.OK)
	}
}

// P8.1: what is no UTF-8 is refused, pieces at the end too, wherever it stands.
func TestQuoteRefuses(t *testing.T) {
	for _, wrong := range notText() {
		for _, form := range []string{"%s", "a%s", "%sa", "\"%s", "%s\n", "\U0001F600%s\u00E4", "\x00%s\\"} {
			quotes(t, strings.Replace(form, "%s", wrong, 1), "", api.ErrRune)
		}
	}
}

// P8.1, P8.4, P8.5: each character there is, alone and between others.
func TestEachCharacter(t *testing.T) {
	for c := range rune(utf8.MaxRune + 1) {
		if !utf8.ValidRune(c) {
			continue
		}
		s := string(c)
		want := quoted(s)
		b, e := Quote(s)
		if b != want || e != api.OK {
			t.Fatalf("Quote(%q): %q, %d; want %q", s, b, e, want)
		}
		text, next, e := Unquote([]byte("\xFF\""+b+"\xFF"), 2)
		if text != s || next != 2+len(b) || e != api.OK {
			t.Fatalf("Unquote of %q: %q, %d, %d", b, text, next, e)
		}
		if c >= 32 && c != '"' && c != '\\' {
			tells(t, `"\t`+s+`x"`, 0, "\t"+s+"x", len(s)+5, api.OK)
		}
	}
}

// P8.2: places below 0 and past the end, whatever the bytes are; at the end nothing stands.
func TestUnquotePlaces(t *testing.T) {
	for _, b := range []string{"", `""`, `"a"`, "x", "\xFF", `"a`, `""""`} {
		room := []byte(b + `""""""`)[:len(b)]
		for _, at := range []int{math.MinInt, math.MinInt32, -2, -1, len(b) + 1, len(b) + 2, cap(room), cap(room) + 1, math.MaxInt32, math.MaxInt - 1, math.MaxInt} {
			if s, next, e := Unquote(room, at); s != "" || next != 0 || e != api.ErrRange {
				t.Errorf("Unquote(%q, %d): %q, %d, %d; want ErrRange", b, at, s, next, e)
			}
		}
		if s, next, e := Unquote(room, len(b)); s != "" || next != 0 || e != api.ErrTrunc {
			t.Errorf("Unquote(%q, %d): %q, %d, %d; want ErrTrunc", b, len(b), s, next, e)
		}
	}
	if _, _, e := Unquote(nil, 0); e != api.ErrTrunc {
		t.Errorf("Unquote(nil, 0): %d; want ErrTrunc", e)
	}
}

// P8.2: strings that tell something, from where they begin to where they end.
func TestUnquote(t *testing.T) {
	for b, want := range map[string]string{
		`""`: "", `"a"`: "a", `"\""`: `"`, `"\\"`: `\`, `"\/"`: "/", `"/"`: "/", `"\b"`: "\b", `"\f"`: "\f", `"\n"`: "\n", `"\r"`: "\r", `"\t"`: "\t",
		`"\\n"`: `\n`, `"\\u0041"`: `\u0041`, `"\\\""`: `\"`, `"\u0000"`: "\x00", `"\u0022"`: `"`, `"\u005c\u005C"`: `\\`, `"\u005cn"`: `\n`, `"\u00411"`: "A1",
		`"\uABCD\uabcd\uAbCd"`: "\uABCD\uABCD\uABCD", `"\u0123\u4567\u89ab\ucdef"`: "\u0123\u4567\u89AB\uCDEF", "\"\x7F\"": "\x7F", `" "`: " ", `"\uFFFF\uFFFE"`: "\uFFFF\uFFFE",
		`"\u007f\u0080\u07ff\u0800\ud7ff\ue000"`: "\x7F\u0080\u07FF\u0800\uD7FF\uE000",
	} {
		for _, ahead := range []string{"", `"`, `\`, `"\`, "x", "\xFF", "\xC3", `\u`, `"\ud83d`} {
			for _, behind := range []string{"", `"`, `\`, "x", "\n", "\xFF", "\xA4", `\ude00`} {
				tells(t, ahead+b+behind, len(ahead), want, len(ahead)+len(b), api.OK)
			}
		}
		follows(t, want, len(b))
	}
}

// P8.2: each number that an escape can have, its letters small and great.
func TestUnquoteNumbers(t *testing.T) {
	for n := range 0x10000 {
		want := string(rune(n))
		if utf16.IsSurrogate(rune(n)) {
			want = "\uFFFD"
		}
		tells(t, fmt.Sprintf(`"\u%04x"`, n), 0, want, 8, api.OK)
		tells(t, fmt.Sprintf(`x"\u%04Xy"`, n), 1, want+"y", 10, api.OK)
		follows(t, want, 8)
	}
}

// P8.2: each pair, and beside it.
func TestUnquotePairs(t *testing.T) {
	b := []byte(`"\u....\u...."`)
	hex := "0123456789abcdef"
	put := func(at, n int) {
		for i := range 4 {
			b[at+i] = hex[n>>(12-4*i)&0xF]
		}
	}
	for one := 0xD800; one < 0xDC00; one++ {
		put(3, one)
		for other := 0xDC00; other < 0xE000; other++ {
			put(9, other)
			want := string(utf16.DecodeRune(rune(one), rune(other)))
			if s, next, e := Unquote(b, 0); s != want || next != len(b) || e != api.OK {
				t.Fatalf("Unquote(%s, 0): %q, %d, %d; want %q", b, s, next, e, want)
			}
		}
	}
	edges := []int{0, 0x41, 0xFFF, 0x1800, 0x5C00, 0xD7FF, 0xD800, 0xD801, 0xDBFF, 0xDC00, 0xDC01, 0xDFFF, 0xE000, 0xFC00, 0xFFFD, 0xFFFF}
	for _, i := range edges {
		for _, j := range edges {
			for _, k := range edges {
				want := string(utf16.Decode([]uint16{uint16(i), uint16(j), uint16(k)}))
				tells(t, fmt.Sprintf(`"\u%04x\u%04X\u%04x"`, i, j, k), 0, want, 20, api.OK)
			}
		}
	}
}

// P8.2: halves stay halves, if anything but the other half's escape stands behind the first one.
func TestUnquoteHalves(t *testing.T) {
	for between, told := range map[string]string{
		"x": "x", `\n`: "\n", `\\`: `\`, `\"`: `"`, " ": " ", "u": "u", "\u20AC": "\u20AC", "\U0001F600": "\U0001F600", `\u0000`: "\x00", `\ufffd`: "\uFFFD", `\\u`: `\u`,
	} {
		b := `"\ud83d` + between + `\ude00"`
		tells(t, b, 0, "\uFFFD"+told+"\uFFFD", len(b), api.OK)
	}
	// What is wrong behind a half is told as it is elsewhere.
	for rest, e := range map[string]api.Errno{
		"": api.ErrTrunc, `\`: api.ErrTrunc, `\u`: api.ErrTrunc, `\ude0`: api.ErrTrunc, `\ude00`: api.ErrTrunc, `\x`: api.ErrEscape, `\ug`: api.ErrEscape, `\ude0"`: api.ErrEscape,
		`\Ude00"`: api.ErrEscape, `\ude0g`: api.ErrEscape, "\n": api.ErrEscape, "\\\xFF": api.ErrEscape, "\xFF": api.ErrRune, "\xC3": api.ErrRune, "\xED\xB8\x80\"": api.ErrRune,
	} {
		tells(t, `"\ud83d`+rest, 0, "", 0, e)
		tells(t, `"\ud83d\ud83d`+rest, 0, "", 0, e)
	}
}

// P8.2: each byte where a string begins, within one, behind a slash, and as each digit.
func TestUnquoteEachByte(t *testing.T) {
	for i := range 256 {
		x := string([]byte{byte(i)})
		for _, form := range []string{`%s`, `%s"`, `"%s`, `"%s"`, `"a%sa"`, `"\%s`, `"\%s"`, `"\%s0041"`, `"\u%s041"`, `"\u0%s41"`, `"\u00%s1"`, `"\u004%s"`, `"\u004%s`, `"\u0041%s"`, `"\u%s`, `"\ud83d%s"`, `"\ud83d\%sde00"`, `"\ud83d\u%se00"`, `"\ud83d\ude0%s"`} {
			reads(t, []byte(strings.Replace(form, "%s", x, 1)), 0)
		}
		for j := range 256 {
			reads(t, []byte{'"', byte(i), byte(j), '"'}, 0)
			reads(t, []byte{'"', byte(i), byte(j)}, 0)
			reads(t, []byte{'"', '\\', byte(i), byte(j), '"'}, 0)
		}
	}
}

// P8.2: of two things that are wrong the one that comes first is told.
func TestUnquoteOrder(t *testing.T) {
	wrong := []struct {
		b string
		e api.Errno
	}{
		{"\n", api.ErrEscape}, {"\x00", api.ErrEscape}, {"\x1F", api.ErrEscape}, {`\x`, api.ErrEscape}, {`\u00x`, api.ErrEscape}, {`\u"`, api.ErrEscape}, {"\\\n", api.ErrEscape},
		{"\\\xFF", api.ErrEscape}, {"\\\xC3\xA4", api.ErrEscape}, {"\\u\xFF", api.ErrEscape}, {"\\u004\xC3", api.ErrEscape}, {`\a`, api.ErrEscape}, {`\v`, api.ErrEscape}, {`\0`, api.ErrEscape},
		{`\'`, api.ErrEscape}, {`\N`, api.ErrEscape}, {`\U0041`, api.ErrEscape}, {`\u+041`, api.ErrEscape}, {`\u 041`, api.ErrEscape}, {`\u{41}`, api.ErrEscape}, {"\\\r\n", api.ErrEscape},
		{"\xFF", api.ErrRune}, {"\x80", api.ErrRune}, {"\xC3\n", api.ErrRune}, {"\xC3\\x", api.ErrRune}, {"\xE2\x82\"", api.ErrRune}, {"\xED\xA0\x80", api.ErrRune}, {"\xC0\x80", api.ErrRune},
		{"\xF4\x90\x80\x80", api.ErrRune},
	}
	for _, x := range wrong {
		for _, y := range append(wrong, struct {
			b string
			e api.Errno
		}{"", api.OK}) {
			for _, end := range []string{`"`, `x"`, "\xC3"} {
				tells(t, `"`+x.b+y.b+end, 0, "", 0, x.e)
				tells(t, `"a\n`+x.b+"\u20AC"+y.b+end, 0, "", 0, x.e)
			}
		}
	}
	for _, b := range notText() {
		tells(t, `"`+b, 0, "", 0, api.ErrRune)
		tells(t, `"a`+b+`"`, 0, "", 0, api.ErrRune)
		tells(t, b+`"`, 0, "", 0, api.ErrEscape)
	}
}

// P8.2, P8.5: all short rows of a string's parts, from their first place and from a later one.
func TestUnquoteRows(t *testing.T) {
	parts := []string{`"`, `\`, "u", `\u`, `\ud83d`, `\uDE00`, "00", "4", "f", "n", "g", "/", "\n", "\xC3", "\xA4", "\xE2\x82", "\U0001F600"}
	for _, row := range rows(parts, 4) {
		reads(t, []byte(`"`+row), 0)
		reads(t, []byte(row), min(1, len(row)))
	}
}

// P8.2: of strings that tell something, each byte changed to each one, left out, or put in twice.
func TestUnquoteChanged(t *testing.T) {
	for _, b := range strung() {
		for at := range len(b) {
			for x := range 256 {
				changed := []byte(b)
				changed[at] = byte(x)
				reads(t, changed, 0)
			}
			reads(t, []byte(b[:at]+b[at+1:]), 0)
			reads(t, []byte(b[:at]+b[at:at+1]+b[at:]), 0)
		}
	}
}

// P8.3: bytes and their spare room are as they were; what is read does not hang on the room.
func TestOnlyReads(t *testing.T) {
	for _, b := range append(strung(), `"a`, `"\ud83d`, `"\u00`, "\"\xC3", "\"\xFF\"", `"\x"`, "x", "") {
		room := []byte(b + "\"\"\"\xA5\xA5")
		was := bytes.Clone(room)
		reads(t, room[:len(b)], 0)
		for at := -1; at <= len(b)+1; at++ {
			Unquote(room[:len(b)], at)
		}
		if !bytes.Equal(room, was) {
			t.Errorf("%q became %q", was, room)
		}
	}
}

// P8.3: what was told stays, whatever becomes of the bytes; other bytes in the same memory are read anew.
func TestKeepsNothing(t *testing.T) {
	for _, b := range strung() {
		room := []byte(b)
		want, n, _ := Unquote([]byte(b), 0)
		for range 2 {
			copy(room, b)
			s, next, e := Unquote(room, 0)
			for i := range room {
				room[i] = 'x'
			}
			if s != want || next != n || e != api.OK {
				t.Errorf("Unquote(%q, 0): %q, %d, %d behind a change; want %q", b, s, next, e, want)
			}
			tells(t, string(room), 0, "", 0, api.ErrEscape)
		}
	}
}

// P8.4: what was quoted is told as it was, whatever stands behind it, and wherever it stands.
func TestQuotedIsTold(t *testing.T) {
	around := []string{"", `"`, `\`, `\"`, "x", "\n", "\xFF", "\xC3", "\xA4", `\ud83d`, `\ude00`, `"\`, `""`}
	for _, s := range rows([]string{"a", `"`, `\`, "/", "\n", "\x00", "\x7F", "ude00", "\u00E4", "\uFFFD", "\U0001F600"}, 3) {
		b, e := Quote(s)
		if e != api.OK {
			t.Fatalf("Quote(%q): %d", s, e)
		}
		for _, ahead := range around {
			for _, behind := range around {
				tells(t, ahead+b+behind, len(ahead), s, len(ahead)+len(b), api.OK)
			}
		}
	}
}

// P8.4: of each beginning of a string that tells something: ErrTrunc, or, within a character, ErrRune.
func TestBeginnings(t *testing.T) {
	for _, b := range strung() {
		if _, next, e := Unquote([]byte(b), 0); next != len(b) || e != api.OK {
			t.Errorf("Unquote(%q, 0): %d, %d", b, next, e)
		}
		for size := range len(b) {
			want := api.ErrTrunc
			if !utf8.RuneStart(b[size]) {
				want = api.ErrRune
			}
			tells(t, b[:size], 0, "", 0, want)
			tells(t, "\xFF"+b[:size], 1, "", 0, want)
			tells(t, b+b[:size], len(b), "", 0, want)
		}
	}
}

// P8.4, P8.5: long texts.
func TestLong(t *testing.T) {
	for _, part := range []string{"a", "\x00", `"\`, "\u20AC", "\U0001F600", "a\n\u00E4\x01/"} {
		s := strings.Repeat(part, 1<<16)
		b, e := Quote(s)
		if want := `"` + strings.Repeat(strings.Trim(quoted("x"+part+"x"), `"x`), 1<<16) + `"`; b != want || e != api.OK {
			t.Errorf("Quote of many %q: %d bytes, %d; want %d", part, len(b), e, len(want))
		}
		text, next, e := Unquote([]byte(b), 0)
		if text != s || next != len(b) || e != api.OK {
			t.Errorf("Unquote of many %q: %d bytes, %d, %d", part, len(text), next, e)
		}
	}
	b := []byte(`"` + strings.Repeat(`\ud83d\ude00`, 1<<16) + `"`)
	if s, next, e := Unquote(b, 0); s != strings.Repeat("\U0001F600", 1<<16) || next != len(b) || e != api.OK {
		t.Errorf("Unquote of many pairs: %d bytes, %d, %d", len(s), next, e)
	}
}
