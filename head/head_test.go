package head

import (
	"bytes"
	"fmt"
	"math"
	"math/big"
	"regexp"
	"slices"
	"strings"
	"testing"

	"colophon/api"
)

const (
	header = "Content-Length: 5\r\n\r\n"
	behind = "\r\nContent-Length: 5\r\n\r\n"
)

var (
	lineForm   = regexp.MustCompile(`^([-0-9A-Za-z]+):([\t\x20-\x7E]*)$`)
	numberForm = regexp.MustCompile(`^[ \t]*([0-9]+)[ \t]*$`)
)

// witness is what Parse should tell, by the chapter's words, with other means: a byte at a time, forms, numbers of any size.
func witness(b []byte) (length, size int, e api.Errno) {
	var lines []string
	line := ""
	for {
		if size == len(b) && size < 512 {
			return 0, 0, api.ErrTrunc
		}
		if size == 512 {
			return 0, 0, api.ErrLimit
		}
		line += string(rune(b[size])) // a byte a rune: forms see bytes
		size++
		if !strings.HasSuffix(line, "\r\n") {
			continue
		}
		if line == "\r\n" {
			break
		}
		lines, line = append(lines, strings.TrimSuffix(line, "\r\n")), ""
	}
	length = -1
	for _, line := range lines {
		m := lineForm.FindStringSubmatch(line)
		if m == nil {
			return 0, 0, api.ErrHead
		}
		if strings.ToLower(m[1]) != "content-length" {
			continue
		}
		v := numberForm.FindStringSubmatch(m[2])
		if v == nil {
			return 0, 0, api.ErrHead
		}
		n, _ := new(big.Int).SetString(v[1], 10)
		if n.Cmp(big.NewInt(65536)) > 0 {
			return 0, 0, api.ErrLimit
		}
		if length >= 0 && length != int(n.Int64()) {
			return 0, 0, api.ErrHead
		}
		length = int(n.Int64())
	}
	if length < 0 {
		return 0, 0, api.ErrHead
	}
	return length, size, api.OK
}

// tells holds Parse to an answer.
func tells(t *testing.T, b string, length, size int, e api.Errno) {
	t.Helper()
	if n, s, f := Parse([]byte(b)); n != length || s != size || f != e {
		t.Errorf("Parse(%q): %d, %d, %d; want %d, %d, %d", b, n, s, f, length, size, e)
	}
}

// parses holds Parse to the witness.
func parses(t *testing.T, b []byte) {
	t.Helper()
	length, size, e := witness(b)
	tells(t, string(b), length, size, e)
}

// rows are all rows of up to so many of these parts.
func rows(of []string, most int) []string {
	l := []string{""}
	last := l
	for range most {
		var next []string
		for _, s := range last {
			for _, part := range of {
				next = append(next, s+part)
			}
		}
		l = append(l, next...)
		last = next
	}
	return l
}

// padded is a header of just so many bytes, with a line of another name ahead.
func padded(size int) string {
	return "X: " + strings.Repeat("y", size-len("X: ")-len(behind)) + behind
}

// mayBe are headers that may be.
func mayBe() []string {
	return []string{
		header,
		"content-length:05\t\r\nContent-Type: x\r\n\r\n",
		"Content-Length:0\r\n\r\n",
		"Content-Length: 65536\r\n\r\n",
		"X: \r\nContent-Length: 7\r\nContent-Length: 007\r\n\r\n",
		"Content-Type: application/vscode-jsonrpc; charset=utf-8\r\nCONTENT-LENGTH: 12\r\n\r\n",
		"Content-Length: 1\r\n-:::\r\n0:\r\n\r\n",
		padded(512),
	}
}

// P6.1: the chapter's examples, and some more headers that may be.
func TestParse(t *testing.T) {
	for _, x := range []struct {
		b            string
		length, size int
		e            api.Errno
	}{
		{"Content-Length: 5\r\n\r\nhello", 5, 21, api.OK},
		{"content-length:05\t\r\nContent-Type: x\r\n\r\n", 5, 39, api.OK},
		{"Content-Length: 5\r\n", 0, 0, api.ErrTrunc},
		{"\r\n", 0, 0, api.ErrHead},
		{"X: 1\r\n\r\n", 0, 0, api.ErrHead},
		{"Content-Length 5\r\n\r\n", 0, 0, api.ErrHead},
		{"Content-Length: 5\nX: 1\r\n\r\n", 0, 0, api.ErrHead},
		{"Content-Length: 5\r\nContent-Length: 6\r\n\r\n", 0, 0, api.ErrHead},
		{"Content-Length: 65537\r\n\r\n", 0, 0, api.ErrLimit},
		{"Content-Length:0\r\n\r\n", 0, 20, api.OK},
		{"Content-Length: 65536\r\n\r\n", 65536, 25, api.OK},
		{"Content-Length: \t \t0065536\t \t\r\n\r\n", 65536, 33, api.OK},
		{"Content-Length: 5\r\n\r\n\r\n", 5, 21, api.OK},
		{"Content-Length: 5\r\n\r\nContent-Length: 6\r\n\r\n", 5, 21, api.OK},
		{"a:\r\nContent-Length: 5\r\n\r\n", 5, 25, api.OK},
		{"0-Z: ~:\t!\r\nContent-Length: 5\r\n\r\n", 5, 32, api.OK},
		{"Content-Length: 5\r\nContent-Length: 5\r\n\r\n", 5, 40, api.OK},
		{"Content-Length: 5\r\nContent-Length:005\r\n\r\n", 5, 41, api.OK},
	} {
		tells(t, x.b, x.length, x.size, x.e)
	}
}

// P6.1: where a header ends, and that it does not end early.
func TestParseEnds(t *testing.T) {
	for _, b := range []string{
		"", "\r", "\n", "\n\n", "\n\r\n", "\r\r\n", "x", "x\r\n", "x\r\n\r", "\r\r\n\r", "\n\r\n\r",
		"Content-Length: 5\n\n", "Content-Length: 5\r\r", "Content-Length: 5\n\r\n\r", "Content-Length: 5\r\n\n\r\n",
		"Content-Length: 5\r\n\r\r\n", "bad\r\nContent-Le", "\xFF\x00", ":\r\n", "Content-Length: 65537\r\n",
	} {
		tells(t, b, 0, 0, api.ErrTrunc)
	}
	tells(t, "\r\n\r\n", 0, 0, api.ErrHead)
	tells(t, "\r\n"+header, 0, 0, api.ErrHead)
	tells(t, "\r\nx", 0, 0, api.ErrHead)
	tells(t, "\n\r\n\r\n", 0, 0, api.ErrHead)
	tells(t, "\r\r\n\r\n", 0, 0, api.ErrHead)
	tells(t, "Content-Length: 5\r\r\n\r\n", 0, 0, api.ErrHead)
	tells(t, "Content-Length: 5\r\n\r\r\n\r\n", 0, 0, api.ErrHead)
	tells(t, "Content-Length: 5\r\n\n\r\n\r\n", 0, 0, api.ErrHead)
	tells(t, "Content-Length: 5\n\r\n\r\n", 0, 0, api.ErrHead)
	if n, size, e := Parse(nil); n != 0 || size != 0 || e != api.ErrTrunc {
		t.Errorf("Parse(nil): %d, %d, %d", n, size, e)
	}
	// What stands in spare room is not there.
	if n, size, e := Parse([]byte(header)[:20]); n != 0 || size != 0 || e != api.ErrTrunc {
		t.Errorf("Parse with an end in spare room: %d, %d, %d", n, size, e)
	}
}

// P6.1: a header has 512 bytes at most, the empty line with it.
func TestParseLimit(t *testing.T) {
	for _, tail := range []string{"", "x", "\r\n", "\r\n\r\n", header, strings.Repeat("\r\n", 70000)} {
		tells(t, padded(511)+tail, 5, 511, api.OK)
		tells(t, padded(512)+tail, 5, 512, api.OK)
		for _, size := range []int{513, 514, 515, 516, 517, 600, 70000} {
			tells(t, padded(size)+tail, 0, 0, api.ErrLimit)
		}
	}
	for _, x := range []string{"x", "\n", "\r", "\x00", "\xFF", "5"} {
		for n := range 512 {
			tells(t, strings.Repeat(x, n), 0, 0, api.ErrTrunc)
		}
		for _, n := range []int{512, 513, 1000, 70000} {
			tells(t, strings.Repeat(x, n), 0, 0, api.ErrLimit)
		}
	}
	// Lines that may not be are not told ahead of the end that is not there.
	for _, line := range []string{"bad\r\n", "Content-Length: 65537\r\n", "Content-Length: 5\r\nContent-Length: 6\r\n"} {
		tells(t, line+strings.Repeat("x", 511-len(line)), 0, 0, api.ErrTrunc)
		tells(t, line+strings.Repeat("x", 512-len(line)), 0, 0, api.ErrLimit)
		tells(t, line+strings.Repeat("x", 509-len(line))+"\r\n\r\n", 0, 0, api.ErrLimit)
	}
	// A header's end within the first 512 bytes counts, whatever the lines are.
	tells(t, strings.Repeat("x", 508)+"\r\n\r\n", 0, 0, api.ErrHead)
	tells(t, strings.Repeat("x", 509)+"\r\n\r\n", 0, 0, api.ErrLimit)
	tells(t, "Content-Length: "+strings.Repeat("0", 491)+"5\r\n\r\n", 5, 512, api.OK)
	tells(t, "Content-Length: "+strings.Repeat("9", 492)+"\r\n\r\n", 0, 0, api.ErrLimit)
	tells(t, "\r\n"+strings.Repeat("x", 600), 0, 0, api.ErrHead)
}

// P6.1: lines that may not be, ahead of the length and behind it.
func TestParseWrongLines(t *testing.T) {
	for _, line := range []string{
		"x", " ", "\t", ":", ": 1", " : 1", ":x: 1", "a b: 1", "a : 1", " a: 1", "a\t: 1", "a_b: 1", "a.b: 1", "a;b", "a=1",
		"a\x00: 1", "a\x80: 1", "\xC3\xA9: 1", "\xE2\x84\xAA: 1", "\uFFFD: 1", "a\xFFb: 1", "a\rb: 1", "a\nb: 1", "\r: 1", "\n: 1",
		"a: \x00", "a: \x1F", "a: \x7F", "a: \x80", "a: \xFF", "a: \xC3\xA9", "a: \uFFFD", "a: \r", "a: \n", "a:\r1", "a: 1\nb: 2", "a: \x0B", "a: \x0C",
		"Content-Length", "Content-Length 5", "Content-Length : 5", " Content-Length: 5", "Content-Length\x00: 5", "Content-\u212Aength: 5",
	} {
		tells(t, line+"\r\n"+header, 0, 0, api.ErrHead)
		tells(t, "Content-Length: 5\r\n"+line+"\r\n\r\n", 0, 0, api.ErrHead)
		tells(t, line+"\r\n\r\n", 0, 0, api.ErrHead)
	}
}

// P6.1: each byte in a name and in a value, alone, at both ends and in the middle.
func TestParseEachByte(t *testing.T) {
	for i := range 256 {
		x := string([]byte{byte(i)})
		name := strings.Contains("-0123456789abcdefghijklmnopqrstuvwxyzABCDEFGHIJKLMNOPQRSTUVWXYZ", x)
		value := i == 9 || 32 <= i && i <= 126
		for _, form := range []string{"%s", "a%s", "%sa", "a%sa"} {
			part := strings.Replace(form, "%s", x, 1)
			// A colon ends a name, so that there is one unless nothing stands ahead of it.
			may := name || x == ":" && form[0] == 'a'
			for b, may := range map[string]bool{part + ": 1" + behind: may, "X:" + part + behind: value} {
				if may {
					tells(t, b, 5, len(b), api.OK)
				} else {
					tells(t, b, 0, 0, api.ErrHead)
				}
			}
		}
	}
}

// P6.1: what a Content-Length may say.
func TestParseValues(t *testing.T) {
	for _, v := range []string{
		"", " ", "\t", " \t ", "x", "-1", "+1", "-0", "1x", "x1", "1 2", "1\t2", "1,1", "1.0", "1e1", "0x1", "1_0", "5:", ":5", "5;", "\"5\"",
		"65537x", "99999999999999999999x", "99999999999999999999 1", "/", "1/", "1;", "\x005", "5\x00", "5\x0B", "5\x0C", "\r5", "5\r", "5\n", "\u00A05", "\uFF15", "\u0665",
	} {
		tells(t, "Content-Length:"+v+"\r\n\r\n", 0, 0, api.ErrHead)
		tells(t, "Content-Length: 5\r\nContent-Length:"+v+"\r\n\r\n", 0, 0, api.ErrHead)
	}
	for _, v := range []string{
		"65537", "065537", "65540", "70000", "99999", "100000", "655360", "4294967296", "4294967301", "9223372036854775807", "9223372036854775808",
		"18446744073709551616", "18446744073709551621", "340282366920938463463374607431768211461",
	} {
		tells(t, "Content-Length: "+v+"\r\n\r\n", 0, 0, api.ErrLimit)
	}
	for n := range 65536 + 300 {
		b := fmt.Sprintf("Content-Length: %d\r\n\r\n", n)
		if n <= 65536 {
			tells(t, b, n, len(b), api.OK)
		} else {
			tells(t, b, 0, 0, api.ErrLimit)
		}
	}
}

// P6.1: lines are looked at in order: the first one that is wrong says how.
func TestParseOrder(t *testing.T) {
	wrong := []struct {
		line string
		e    api.Errno
	}{
		{"bad\r\n", api.ErrHead},
		{"a: \x80\r\n", api.ErrHead},
		{"Content-Length: x\r\n", api.ErrHead},
		{"Content-Length: 65537\r\n", api.ErrLimit},
		{"Content-Length: 65538\r\n", api.ErrLimit},
		{"Content-Length: 6\r\n", api.ErrHead},
	}
	for _, x := range wrong {
		for _, y := range wrong {
			tells(t, "Content-Length: 5\r\n"+x.line+y.line+"\r\n", 0, 0, x.e)
			tells(t, "Content-Length: 5\r\n"+x.line+"a: b\r\n"+y.line+"\r\n", 0, 0, x.e)
		}
	}
	tells(t, "Content-Length: 65537\r\nbad\r\n\r\n", 0, 0, api.ErrLimit)
	tells(t, "bad\r\nContent-Length: 65537\r\n\r\n", 0, 0, api.ErrHead)
	tells(t, "Content-Length: 65537\x00\r\n\r\n", 0, 0, api.ErrHead)
}

// P6.1: Content-Length more than once.
func TestParseRepeated(t *testing.T) {
	for _, n := range []int{0, 1, 5, 6, 65535, 65536} {
		for _, m := range []int{0, 1, 5, 6, 65535, 65536} {
			one, other := fmt.Sprintf("Content-Length: %d\r\n", n), fmt.Sprintf("content-length:\t0%d \r\n", m)
			for _, b := range []string{one + other + "\r\n", one + "X: 1\r\n" + other + "\r\n", one + one + other + "\r\n", one + other + one + "\r\n"} {
				if n == m {
					tells(t, b, n, len(b), api.OK)
				} else {
					tells(t, b, 0, 0, api.ErrHead)
				}
			}
		}
	}
}

// P6.1: there must be a Content-Length; names that are nearly it are others.
func TestParseAbsent(t *testing.T) {
	for _, name := range []string{"X", "Content", "Length", "Content-Lengt", "Content-Lengths", "-Content-Length", "Content-Length-", "ContentLength", "Content--Length", "C0ntent-Length", "Content-Type"} {
		for _, value := range []string{"5", "x", "65537", "", "-1"} {
			tells(t, name+": "+value+"\r\n\r\n", 0, 0, api.ErrHead)
			b := name + ": " + value + "\r\n" + header
			tells(t, b, 5, len(b), api.OK)
		}
	}
}

// P6.1: all short rows of a header's parts are told as the chapter's words say.
func TestParseRows(t *testing.T) {
	parts := []string{"Content-Length:", "content-length: 5\r\n", "5", "6", "65537", " ", "\r", "\n", "\r\n", "\r\n\r\n", "a:", "\x80", "b"}
	for _, b := range rows(parts, 5) {
		parses(t, []byte(b))
	}
}

// P6.1: of headers that may be, each byte changed to each one, left out, or put in twice.
func TestParseChanged(t *testing.T) {
	for _, b := range []string{header, "X: 1\r\nContent-Length:\t05 \r\n\r\nhello", "Content-Length: 5\r\ncontent-length: 5\r\n\r\n"} {
		for at := range len(b) {
			for x := range 256 {
				changed := []byte(b)
				changed[at] = byte(x)
				parses(t, changed)
			}
			parses(t, []byte(b[:at]+b[at+1:]))
			parses(t, []byte(b[:at]+b[at:at+1]+b[at:]))
			parses(t, []byte(b[:at]))
		}
	}
}

// P6.2: headers, and lengths that have none.
func TestMake(t *testing.T) {
	for _, n := range []int{0, 1, 5, 9, 10, 907, 65535, 65536} {
		want := fmt.Sprintf("Content-Length: %d\r\n\r\n", n)
		if b, e := Make(n); string(b) != want || e != api.OK {
			t.Errorf("Make(%d): %q, %d; want %q", n, b, e, want)
		}
	}
	for _, n := range []int{-1, -2, -65536, 65537, 65538, 1 << 17, 1 << 32, 1<<32 + 5, math.MinInt32, math.MaxInt32, math.MinInt, math.MaxInt} {
		if b, e := Make(n); len(b) != 0 || e != api.ErrRange {
			t.Errorf("Make(%d): %q, %d; want ErrRange", n, b, e)
		}
	}
}

// P6.3: bytes and their spare room are as they were.
func TestOnlyReads(t *testing.T) {
	for _, b := range []string{"", header, header + "hello", "\r\n", "bad\r\n\r\n", "CONTENT-LENGTH:\t 5 \t\r\n\r\n", "Content-Length: 65537\r\n\r\n", padded(512), padded(513), "Content-Length: 5\r\nContent-Length: 6\r\n\r\n"} {
		room := []byte(b + "\r\n\r\n\xA5\xA5")
		was := bytes.Clone(room)
		Parse(room[:len(b)])
		if !bytes.Equal(room, was) {
			t.Errorf("%q became %q", was, room)
		}
	}
}

// P6.3: nothing is kept: other bytes in the same memory are read anew.
func TestKeepsNothing(t *testing.T) {
	b := []byte(header)
	for range 2 {
		for _, x := range []struct {
			digit        byte
			length, size int
			e            api.Errno
		}{{'5', 5, 21, api.OK}, {'6', 6, 21, api.OK}, {'x', 0, 0, api.ErrHead}} {
			b[16] = x.digit
			if n, size, e := Parse(b); n != x.length || size != x.size || e != x.e {
				t.Errorf("Parse(%q): %d, %d, %d", b, n, size, e)
			}
		}
	}
}

// P6.3: what is made is new memory each time, its spare room, too.
func TestMakesAnew(t *testing.T) {
	for _, n := range []int{0, 5, 65536} {
		one, _ := Make(n)
		want := string(one)
		other, _ := Make(n)
		for _, b := range [][]byte{one[:cap(one)], other[:cap(other)]} {
			for i := range b {
				b[i] = 'x'
			}
			if again, e := Make(n); string(again) != want || e != api.OK {
				t.Errorf("Make(%d) behind a change: %q, %d; want %q", n, again, e, want)
			}
		}
		one, _ = Make(n)
		other, _ = Make(n)
		one[0] = 'x'
		if string(other) != want {
			t.Errorf("two of Make(%d) share memory", n)
		}
	}
}

// P6.4: what is made is parsed as it was meant, whatever stands behind it.
func TestMadeIsParsed(t *testing.T) {
	tails := []string{"", "\r\n", "\r\n\r\n", "hello", "Content-Length: 6\r\n\r\n", "7\r\n\r\n", "\x00\xFF", strings.Repeat("x", 600)}
	for n := range 65537 {
		b, e := Make(n)
		if e != api.OK {
			t.Fatalf("Make(%d): %d", n, e)
		}
		tells(t, string(b)+tails[n%len(tails)], n, len(b), api.OK)
	}
	for _, n := range []int{0, 5, 65536} {
		b, _ := Make(n)
		for _, tail := range append(tails, rows([]string{"\r", "\n", "5", ":", "a"}, 4)...) {
			tells(t, string(b)+tail, n, len(b), api.OK)
		}
	}
}

// P6.4: an answer other than ErrTrunc stays, whatever comes behind.
func TestAnswersStay(t *testing.T) {
	tails := append(rows([]string{"\r", "\n", "Content-Length: 6", "x"}, 3), header, "\x80", strings.Repeat("x", 600), strings.Repeat("\r\n", 300))
	heads := []string{"\r\n", "x\r\n\r\n", "a: \x80\r\n\r\n", "X: 1\r\n\r\n", "Content-Length: 65537\r\n\r\n", "Content-Length: 5\r\nContent-Length: 6\r\n\r\n", strings.Repeat("x", 512), strings.Repeat("x", 511) + "\r", padded(513)[:512], padded(514)[:512], padded(515)[:512]}
	for _, b := range append(heads, mayBe()...) {
		length, size, e := Parse([]byte(b))
		if e == api.ErrTrunc {
			t.Errorf("Parse(%q): ErrTrunc", b)
		}
		for _, tail := range tails {
			tells(t, b+tail, length, size, e)
		}
	}
}

// P6.4: of each beginning of a header that may be ErrTrunc is told.
func TestBeginnings(t *testing.T) {
	for _, b := range mayBe() {
		if _, size, e := Parse([]byte(b)); size != len(b) || e != api.OK {
			t.Errorf("Parse(%q): %d, %d", b, size, e)
		}
		for size := range len(b) {
			tells(t, b[:size], 0, 0, api.ErrTrunc)
		}
	}
}

// P6.5: lines of other names change nothing, wherever they stand; nor does the order of lines.
func TestOtherLines(t *testing.T) {
	lines := []string{"Content-Length: 5\r\n", "Content-Type: x; y=z\r\n", "a:\r\n", "content-length:005\r\n", "Content-Lengths: 6\r\n"}
	var orders func(done, left []string)
	orders = func(done, left []string) {
		if slices.Contains(done, lines[0]) || slices.Contains(done, lines[3]) {
			b := strings.Join(done, "") + "\r\n"
			tells(t, b, 5, len(b), api.OK)
		}
		for i := range left {
			orders(append(slices.Clone(done), left[i]), slices.Delete(slices.Clone(left), i, i+1))
		}
	}
	orders(nil, lines)
}

// P6.5: the case of each letter of the name changes nothing.
func TestCase(t *testing.T) {
	name := []byte("content-length")
	for bits := range 1 << len(name) {
		b := bytes.Clone(name)
		for i := range b {
			if bits>>i&1 == 1 {
				b[i] = bytes.ToUpper(b[i : i+1])[0]
			}
		}
		tells(t, string(b)+": 5\r\n\r\n", 5, 21, api.OK)
	}
	tells(t, "Content-Length: 5\r\nCONTENT-length: 6\r\n\r\n", 0, 0, api.ErrHead)
	// A byte that differs from one of the name's by the bit of a letter's case alone is another.
	tells(t, "Content\rLength: 5\r\n\r\n", 0, 0, api.ErrHead)
}

// P6.5: blanks at both ends of a value change nothing; within it they do.
func TestBlanks(t *testing.T) {
	ends := rows([]string{" ", "\t"}, 4)
	for _, ahead := range ends {
		for _, behind := range ends {
			b := "Content-Length:" + ahead + "50" + behind + "\r\n\r\n"
			tells(t, b, 50, len(b), api.OK)
		}
		if ahead != "" {
			tells(t, "Content-Length:5"+ahead+"0\r\n\r\n", 0, 0, api.ErrHead)
		}
	}
}
