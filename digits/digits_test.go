package digits

import (
	"bytes"
	"cmp"
	"math"
	"math/big"
	"strings"
	"testing"

	"colophon/api"
)

// numbers are both ends of each length, of powers of two, and of all that an int can be from 0 on.
func numbers() []int {
	l := []int{0, 120, 907, 65535, 65536, 65537, 1<<53 - 1, math.MaxInt32, math.MaxInt}
	for n := 1; ; n *= 10 {
		l = append(l, n-1, n, n+1, n+n/2, n/7*5+3)
		if n > math.MaxInt/10 {
			break
		}
	}
	for i := range 63 {
		l = append(l, 1<<i-1, 1<<i, 1<<i+1)
	}
	for i := range 40 {
		l = append(l, math.MaxInt-i, math.MaxInt/10-i, math.MaxInt/10+i)
	}
	return l
}

// isDigit says it as the chapter's words do.
func isDigit(x byte) bool {
	return strings.IndexByte("0123456789", x) >= 0
}

// shortRows are all rows of up to so many of these bytes.
func shortRows(of string, most int) [][]byte {
	rows := [][]byte{{}}
	for from := 0; len(rows[from]) < most; from++ {
		for i := range len(of) {
			rows = append(rows, append(bytes.Clone(rows[from]), of[i]))
		}
	}
	return rows
}

// witness is what Parse should tell, by numbers of any size.
func witness(b []byte, most int) (int, api.Errno) {
	if most < 0 {
		return 0, api.ErrArg
	}
	if len(b) == 0 {
		return 0, api.ErrSyntax
	}
	for _, x := range b {
		if !isDigit(x) {
			return 0, api.ErrSyntax
		}
	}
	n, _ := new(big.Int).SetString(string(b), 10)
	if n.Cmp(big.NewInt(int64(most))) > 0 {
		return 0, api.ErrLimit
	}
	return int(n.Int64()), api.OK
}

// parses holds Parse to the witness.
func parses(t *testing.T, b []byte, most int) {
	t.Helper()
	want, wantE := witness(b, most)
	if n, e := Parse(b, most); n != want || e != wantE {
		t.Errorf("Parse(%q, %d): %d, %d; want %d, %d", b, most, n, e, want, wantE)
	}
}

// mustText is for tests that need a number's text to begin with.
func mustText(t *testing.T, n int) string {
	t.Helper()
	s, e := Text(n)
	if e != api.OK {
		t.Fatalf("Text(%d): %d", n, e)
	}
	return s
}

// P5.1: the chapter's runs, and some at the ends of bytes.
func TestRun(t *testing.T) {
	for _, x := range []struct {
		b    string
		at   int
		want int
	}{
		{"ab120c", 2, 3},
		{"ab120c", 3, 2},
		{"ab120c", 4, 1},
		{"ab120c", 5, 0},
		{"ab120c", 1, 0},
		{"ab", 0, 0},
		{"12", 0, 2},
		{"12", 1, 1},
		{"12", 2, 0},
		{"0123456789", 0, 10},
		{"00", 0, 2},
		{"1 2", 0, 1},
		{"1-2", 1, 0},
		{"+1", 0, 0},
		{"1.5", 0, 1},
		{"1\x002", 0, 1},
		{"1\xFF", 0, 1},
		{"\u0661", 0, 0},
		{"1\u0662", 0, 1},
	} {
		if n := Run([]byte(x.b), x.at); n != x.want {
			t.Errorf("Run(%q, %d): %d; want %d", x.b, x.at, n, x.want)
		}
	}
}

// P5.1: of all bytes ten are digits, wherever they stand.
func TestRunEachByte(t *testing.T) {
	for i := range 256 {
		x := byte(i)
		want := 0
		if isDigit(x) {
			want = 1
		}
		if n := Run([]byte{x}, 0); n != want {
			t.Errorf("Run(% X, 0): %d; want %d", x, n, want)
		}
		if n := Run([]byte{'7', x}, 0); n != 1+want {
			t.Errorf("Run(37 % X, 0): %d; want %d", x, n, 1+want)
		}
		if n := Run([]byte{'7', x, '7'}, 0); n != 1+2*want {
			t.Errorf("Run(37 % X 37, 0): %d; want %d", x, n, 1+2*want)
		}
	}
}

// P5.1: all short rows of digits and of the bytes beside them, at each place, also below 0 and past the end.
func TestRunRows(t *testing.T) {
	for _, b := range shortRows("/09:", 6) {
		for at := -2; at <= len(b)+2; at++ {
			want := 0
			for i := at; 0 <= i && i < len(b) && isDigit(b[i]); i++ {
				want++
			}
			if n := Run(b, at); n != want {
				t.Fatalf("Run(%q, %d): %d; want %d", b, at, n, want)
			}
		}
	}
}

// P5.1: places that are none; digits in spare room do not count.
func TestRunPlaces(t *testing.T) {
	for _, b := range [][]byte{nil, {}, []byte("1"), []byte("120"), []byte("120")[:1], []byte("ab")} {
		for _, at := range []int{math.MinInt, math.MinInt32, -2, -1, len(b), len(b) + 1, cap(b) + 1, math.MaxInt32, math.MaxInt - 1, math.MaxInt} {
			if n := Run(b, at); n != 0 {
				t.Errorf("Run(%q, %d): %d; want 0", b, at, n)
			}
		}
	}
	if n := Run([]byte("1234")[:2], 0); n != 2 {
		t.Errorf("Run of two with digits in spare room: %d", n)
	}
	long := bytes.Repeat([]byte("8"), 100000)
	if n := Run(long, 1); n != len(long)-1 {
		t.Errorf("Run of a long one: %d", n)
	}
}

// P5.2: numbers, the limit's ends, noughts ahead, and what is no number.
func TestParse(t *testing.T) {
	for _, x := range []struct {
		b    string
		most int
		want int
		e    api.Errno
	}{
		{"120", 200, 120, api.OK},
		{"120", 121, 120, api.OK},
		{"120", 120, 120, api.OK},
		{"120", 119, 0, api.ErrLimit},
		{"120", 12, 0, api.ErrLimit},
		{"120", 0, 0, api.ErrLimit},
		{"0120", 200, 120, api.OK},
		{"0000120", 120, 120, api.OK},
		{"0000120", 119, 0, api.ErrLimit},
		{"0", 0, 0, api.OK},
		{"00000", 0, 0, api.OK},
		{"1", 0, 0, api.ErrLimit},
		{"5", 4, 0, api.ErrLimit},
		{"9", 0, 0, api.ErrLimit},
		{"01", 0, 0, api.ErrLimit},
		{"", 9, 0, api.ErrSyntax},
		{"1 ", 9, 0, api.ErrSyntax},
		{" 1", 9, 0, api.ErrSyntax},
		{"-1", 9, 0, api.ErrSyntax},
		{"+1", 9, 0, api.ErrSyntax},
		{"-0", 9, 0, api.ErrSyntax},
		{"-", 9, 0, api.ErrSyntax},
		{"1_0", 99, 0, api.ErrSyntax},
		{"0x1", 99, 0, api.ErrSyntax},
		{"1e1", 99, 0, api.ErrSyntax},
		{"1.0", 99, 0, api.ErrSyntax},
		{"1\n", 99, 0, api.ErrSyntax},
		{"1\x00", 99, 0, api.ErrSyntax},
		{"\xFF", 99, 0, api.ErrSyntax},
		{"\u0661", 99, 0, api.ErrSyntax},
		{"\uFF11", 99, 0, api.ErrSyntax},
		{"9223372036854775807", math.MaxInt, math.MaxInt, api.OK},
		{"0009223372036854775807", math.MaxInt, math.MaxInt, api.OK},
		{"9223372036854775806", math.MaxInt, math.MaxInt - 1, api.OK},
		{"9223372036854775807", math.MaxInt - 1, 0, api.ErrLimit},
		{"9223372036854775808", math.MaxInt, 0, api.ErrLimit},
		{"9223372036854775810", math.MaxInt, 0, api.ErrLimit},
		{"18446744073709551615", math.MaxInt, 0, api.ErrLimit},
		{"18446744073709551616", math.MaxInt, 0, api.ErrLimit},
		{"18446744073709551617", math.MaxInt, 0, api.ErrLimit},
		{"92233720368547758070", math.MaxInt, 0, api.ErrLimit},
		{"340282366920938463463374607431768211457", math.MaxInt, 0, api.ErrLimit},
	} {
		if n, e := Parse([]byte(x.b), x.most); n != x.want || e != x.e {
			t.Errorf("Parse(%q, %d): %d, %d; want %d, %d", x.b, x.most, n, e, x.want, x.e)
		}
	}
}

// P5.2: of several errors ErrArg is told ahead of ErrSyntax, and that one ahead of ErrLimit.
func TestParseOrder(t *testing.T) {
	for _, b := range []string{"", "0", "1", "120", "x", "1x", "99999999999999999999"} {
		for _, most := range []int{-1, -120, math.MinInt32, math.MinInt} {
			if n, e := Parse([]byte(b), most); n != 0 || e != api.ErrArg {
				t.Errorf("Parse(%q, %d): %d, %d; want ErrArg", b, most, n, e)
			}
		}
	}
	for _, b := range []string{"", "x", "9x", "99 ", "99999999999999999999x", "99999999999999999999 1"} {
		for _, most := range []int{0, 8, math.MaxInt} {
			if n, e := Parse([]byte(b), most); n != 0 || e != api.ErrSyntax {
				t.Errorf("Parse(%q, %d): %d, %d; want ErrSyntax", b, most, n, e)
			}
		}
	}
}

// P5.2: each number around each limit, with noughts ahead and without.
func TestParseNumbers(t *testing.T) {
	for _, n := range numbers() {
		s := big.NewInt(int64(n)).String()
		for _, b := range []string{s, "0" + s, "000000000000000000000000000000" + s, s + "0", s + "7", s + "9", s + "/", s + ":", "/" + s} {
			for _, most := range []int{n, n - 1, n / 2, n / 10, n/10 + 1, 0, 9, 10, 99, math.MaxInt - 1, math.MaxInt, -1} {
				parses(t, []byte(b), most)
			}
			if n < math.MaxInt {
				parses(t, []byte(b), n+1)
			}
		}
	}
}

// P5.2: all small numbers against all small limits, and all short rows.
func TestParseRows(t *testing.T) {
	for n := range 130 {
		b := []byte(big.NewInt(int64(n)).String())
		for most := -1; most < 130; most++ {
			parses(t, b, most)
		}
	}
	for _, b := range shortRows("019/:-", 5) {
		for _, most := range []int{-1, 0, 1, 9, 10, 19, 90, 109, 1000, math.MaxInt} {
			parses(t, b, most)
		}
	}
}

// P5.2: very many digits; those in spare room are not read.
func TestParseLong(t *testing.T) {
	noughts := bytes.Repeat([]byte("0"), 100000)
	for _, tail := range []string{"", "0", "1", "65536", "65537", "x"} {
		parses(t, append(bytes.Clone(noughts), tail...), 65536)
	}
	for _, x := range []string{"1", "9", "5"} {
		if n, e := Parse(bytes.Repeat([]byte(x), 100000), math.MaxInt); n != 0 || e != api.ErrLimit {
			t.Errorf("Parse of many %s: %d, %d; want ErrLimit", x, n, e)
		}
	}
	if n, e := Parse([]byte("1234")[:2], 99); n != 12 || e != api.OK {
		t.Errorf("Parse of two with digits in spare room: %d, %d", n, e)
	}
	if n, e := Parse([]byte("12")[:0], 99); n != 0 || e != api.ErrSyntax {
		t.Errorf("Parse of none with digits in spare room: %d, %d", n, e)
	}
	if n, e := Parse(nil, 99); n != 0 || e != api.ErrSyntax {
		t.Errorf("Parse(nil, 99): %d, %d", n, e)
	}
}

// P5.3: texts, and numbers that have none.
func TestText(t *testing.T) {
	for _, x := range []struct {
		n    int
		want string
	}{
		{0, "0"}, {1, "1"}, {9, "9"}, {10, "10"}, {99, "99"}, {100, "100"}, {907, "907"}, {65536, "65536"},
		{1<<53 - 1, "9007199254740991"}, {math.MaxInt - 1, "9223372036854775806"}, {math.MaxInt, "9223372036854775807"},
	} {
		if s, e := Text(x.n); s != x.want || e != api.OK {
			t.Errorf("Text(%d): %q, %d; want %q", x.n, s, e, x.want)
		}
	}
	for _, n := range []int{-1, -2, -10, -907, math.MinInt32, math.MinInt + 1, math.MinInt} {
		if s, e := Text(n); s != "" || e != api.ErrRange {
			t.Errorf("Text(%d): %q, %d; want ErrRange", n, s, e)
		}
	}
}

// P5.3: a text is digits alone, as few as can be, and says the number.
func TestTextNumbers(t *testing.T) {
	for _, n := range numbers() {
		s := mustText(t, n)
		if Run([]byte(s), 0) != len(s) || s == "" || len(s) > 1 && s[0] == '0' || s != big.NewInt(int64(n)).String() {
			t.Errorf("Text(%d): %q", n, s)
		}
	}
}

// P5.4: bytes and their spare room are as they were.
func TestOnlyReads(t *testing.T) {
	for _, l := range []string{"", "120", "000120", "ab120c", "99999999999999999999", "1x", "\xFF\x00"} {
		room := append([]byte(l), "7\xA5\xA5\xA5"...)
		was := bytes.Clone(room)
		b := room[:len(l)]
		for at := -1; at <= len(b); at++ {
			Run(b, at)
		}
		for _, most := range []int{-1, 0, 120, math.MaxInt} {
			Parse(b, most)
		}
		if !bytes.Equal(room, was) {
			t.Errorf("%q became %q", was, room)
		}
	}
}

// P5.4: nothing is kept: other bytes in the same memory are read anew.
func TestKeepsNothing(t *testing.T) {
	b := []byte("120")
	for range 2 {
		copy(b, "120")
		if n, e := Parse(b, 999); n != 120 || e != api.OK || Run(b, 0) != 3 {
			t.Errorf("Parse of 120: %d, %d", n, e)
		}
		copy(b, "45x")
		if n, e := Parse(b, 999); n != 0 || e != api.ErrSyntax || Run(b, 0) != 2 {
			t.Errorf("Parse of 45x: %d, %d", n, e)
		}
	}
}

// P5.5: a number's text is parsed as that number, also where it is the limit itself.
func TestWrittenIsRead(t *testing.T) {
	for _, n := range numbers() {
		s := mustText(t, n)
		for _, most := range []int{n, math.MaxInt} {
			if got, e := Parse([]byte(s), most); got != n || e != api.OK {
				t.Errorf("Parse(%q, %d): %d, %d; want %d", s, most, got, e, n)
			}
		}
	}
	for n := range 20000 {
		if got, e := Parse([]byte(mustText(t, n)), n); got != n || e != api.OK {
			t.Fatalf("%d is parsed as %d, %d", n, got, e)
		}
	}
}

// P5.5: what is parsed is written as the same text, but for noughts ahead.
func TestReadIsWritten(t *testing.T) {
	for _, b := range shortRows("0159", 7) {
		if len(b) == 0 {
			continue
		}
		n, e := Parse(b, math.MaxInt)
		if e != api.OK {
			t.Fatalf("Parse(%q): %d", b, e)
		}
		want := strings.TrimLeft(string(b), "0")
		if want == "" {
			want = "0"
		}
		if s := mustText(t, n); s != want {
			t.Fatalf("%q is written as %q; want %q", b, s, want)
		}
	}
}

// P5.6: the order of numbers is that of their texts: by lengths first, then by bytes.
func TestOrder(t *testing.T) {
	l := numbers()
	for _, n := range l {
		for _, m := range l {
			s, r := mustText(t, n), mustText(t, m)
			want := cmp.Or(cmp.Compare(len(s), len(r)), strings.Compare(s, r))
			if cmp.Compare(n, m) != want {
				t.Fatalf("%d and %d are in another order than %q and %q", n, m, s, r)
			}
		}
	}
}

// P5.6: of texts without noughts ahead, too, that were not written by Text.
func TestOrderOfTexts(t *testing.T) {
	var texts []string
	for _, b := range shortRows("0189", 4) {
		if s := string(b); s == "0" || s != "" && s[0] != '0' {
			texts = append(texts, s)
		}
	}
	for _, s := range texts {
		for _, r := range texts {
			n, e := Parse([]byte(s), math.MaxInt)
			m, f := Parse([]byte(r), math.MaxInt)
			want := cmp.Or(cmp.Compare(len(s), len(r)), strings.Compare(s, r))
			if e != api.OK || f != api.OK || cmp.Compare(n, m) != want {
				t.Fatalf("%q and %q are parsed as %d and %d", s, r, n, m)
			}
		}
	}
}
