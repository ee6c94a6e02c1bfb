package number

import (
	"bytes"
	"encoding/json"
	"math"
	"math/big"
	"regexp"
	"strconv"
	"strings"
	"testing"

	"colophon/api"
)

// brief is a text for a message: of a long one both ends.
func brief(s string) string {
	if len(s) < 200 {
		return strconv.Quote(s)
	}
	return strconv.Quote(s[:40]) + ".." + strconv.Quote(s[len(s)-40:])
}

// checks holds Check to an answer.
func checks(t *testing.T, b string, at, next int, e api.Errno) {
	t.Helper()
	if n, f := Check([]byte(b), at); n != next || f != e {
		t.Errorf("Check(%s, %d): %d, %d; want %d, %d", brief(b), at, n, f, next, e)
	}
}

// same holds Same to an answer, whichever of both comes first.
func same(t *testing.T, a, b string, want bool) {
	t.Helper()
	if is := Same(a, b); is != want {
		t.Errorf("Same(%s, %s): %v", brief(a), brief(b), is)
	}
	if is := Same(b, a); is != want {
		t.Errorf("Same(%s, %s): %v", brief(b), brief(a), is)
	}
}

// is holds Int to a number.
func is(t *testing.T, s string, want int) {
	t.Helper()
	if n, ok := Int(s); n != want || !ok {
		t.Errorf("Int(%s): %d, %v; want %d", brief(s), n, ok, want)
	}
}

// isNone holds Int to telling nothing.
func isNone(t *testing.T, s string) {
	t.Helper()
	if n, ok := Int(s); n != 0 || ok {
		t.Errorf("Int(%s): %d, %v; want nothing", brief(s), n, ok)
	}
}

// form is a number's, as the chapter's words say.
var form = regexp.MustCompile(`^-?(0|[1-9][0-9]*)(\.[0-9]+)?([eE][+-]?[0-9]+)?$`)

// witness is what Check should tell. What is no number yet is the beginning of one just if it is one with a digit behind it.
func witness(b []byte, at int) (next int, e api.Errno) {
	if at < 0 || at > len(b) {
		return 0, api.ErrRange
	}
	for next = at; next < len(b); next++ {
		more := b[at : next+1]
		if !form.Match(more) && !form.Match(append(bytes.Clone(more), '0')) {
			break
		}
	}
	switch {
	case form.Match(b[at:next]):
		return next, api.OK
	case next == len(b):
		return 0, api.ErrTrunc
	}
	return 0, api.ErrNumber
}

// goes holds Check to the witness.
func goes(t *testing.T, b []byte, at int) {
	t.Helper()
	next, e := Check(b, at)
	if n, f := witness(b, at); next != n || e != f {
		t.Errorf("Check(%q, %d): %d, %d; want %d, %d", b, at, next, e, n, f)
	}
}

// rows are all rows of up to so many of these characters.
func rows(of string, most int) []string {
	all := []string{""}
	for from := 0; len(all[from]) < most; from++ {
		for _, c := range of {
			all = append(all, all[from]+string(c))
		}
	}
	return all
}

// ratio is a number's value by the library: a text that two have alike just if their values are; "", if it is no number. Its power is a small one.
func ratio(s string) string {
	if !form.MatchString(s) {
		return ""
	}
	r, ok := new(big.Rat).SetString(s)
	if !ok {
		panic("a number that the library does not read: " + s)
	}
	return r.RatString()
}

// notNumbers are texts that are no numbers.
func notNumbers() []string {
	return []string{
		"", " ", "-", "+", ".", "e", "x", "--1", "-+1", "+1", "+0", "-a", "- 1", "01", "00", "-00", "-01", "007", ".5", "-.5", "1.", "-0.", "1.e5", "1..5", "1.5.2", "1.-5", "1e", "1E", "1e+", "1e-",
		"e5", "1ee5", "1e5e5", "1e+-5", "1e++5", "1e5.", "1e5.0", "1e.5", "1e 5", "1e5 ", " 1", "1 ", "1\n", "1\x00", "\x001", "1-", "1-1", "1+", "1,", "1,000", "1_000", "0x10", "0b1", "0o7", "1f", "1d5",
		"Infinity", "-Infinity", "NaN", "null", "true", `"1"`, "[1]", "1/2", "\uFF11", "\u0661", "1\u0661", "\u22121", "1\xFF", "\xFF", "1e\uFF11", "1\u00B7", "1\uFFFD", "\uFEFF1",
	}
}

// numbers are ordinary ones, with both ends of all lengths, and their parts in all forms; none has a great power.
func numbers() []string {
	l := []string{"120", "12.50", "-12.50e+3", "0.001", "3.14159", "-273.15", "6.02214076e23", "1.6e-19", "9007199254740991", "9007199254740992", "-9007199254740993", "18446744073709551616", "100000000000000000000"}
	for _, sign := range []string{"", "-"} {
		for _, whole := range []string{"0", "1", "9", "10", "100", "101", "1000"} {
			for _, behind := range []string{"", ".0", ".00", ".1", ".10", ".01", ".010", ".9", ".101"} {
				for _, power := range []string{"", "e0", "E-0", "e1", "E+1", "e01", "e-1", "e-01", "e002", "E-2", "e3", "e-3"} {
					l = append(l, sign+whole+behind+power)
				}
			}
		}
	}
	return l
}

// The chapter's examples.
func TestExamples(t *testing.T) {
	checks(t, "-12.50e+3,", 0, 9, api.OK)
	checks(t, "0123", 0, 1, api.OK)
	for _, b := range []string{"-", "1.", "1e+", ""} {
		checks(t, b, 0, 0, api.ErrTrunc)
	}
	for _, b := range []string{"-a", "1.e5", "+1"} {
		checks(t, b, 0, 0, api.ErrNumber)
	}
	same(t, "1.50", "15e-1", true)
	same(t, "-0", "0e9", true)
	same(t, "1", "10", false)
	is(t, "1.20e2", 120)
	is(t, "-0", 0)
	isNone(t, "0.5")
	isNone(t, "9007199254740992")
}

// P9.1: places below 0 and past the end, whatever the bytes are; at the end nothing stands.
func TestCheckPlaces(t *testing.T) {
	for _, b := range []string{"", "1", "-1.5e3", "x", "\xFF", "1.", "-"} {
		room := []byte(b + "111111")[:len(b)]
		for _, at := range []int{math.MinInt, math.MinInt32, -2, -1, len(b) + 1, len(b) + 2, cap(room), cap(room) + 1, math.MaxInt32, math.MaxInt - 1, math.MaxInt} {
			if next, e := Check(room, at); next != 0 || e != api.ErrRange {
				t.Errorf("Check(%q, %d): %d, %d; want ErrRange", b, at, next, e)
			}
		}
		if next, e := Check(room, len(b)); next != 0 || e != api.ErrTrunc {
			t.Errorf("Check(%q, %d): %d, %d; want ErrTrunc", b, len(b), next, e)
		}
	}
	if next, e := Check(nil, 0); next != 0 || e != api.ErrTrunc {
		t.Errorf("Check(nil, 0): %d, %d; want ErrTrunc", next, e)
	}
}

// P9.1: numbers, from where they begin to where they end, whatever stands ahead of them and behind them.
func TestCheckNumbers(t *testing.T) {
	for _, b := range numbers() {
		for _, ahead := range []string{"", "-", "0", "1", "1.", "1e", "x", "\xFF"} {
			for _, behind := range []string{"", " ", ",", "]", "}", "\n", "-", "+", "x", "\x00", "\xFF", "/", ":", "-1", "+1"} {
				checks(t, ahead+b+behind, len(ahead), len(ahead)+len(b), api.OK)
			}
		}
	}
}

// P9.1: what ends a number's parts, written down.
func TestCheckEnds(t *testing.T) {
	for b, next := range map[string]int{
		"0": 1, "00": 1, "01": 1, "-0": 2, "-00": 2, "-01.5": 2, "0.0": 3, "0.00": 4, "0e0": 3, "0e00": 4, "0.5.": 3, "1.5.2": 3, "1e5e5": 3, "1e5.5": 3, "1e5-1": 3, "1e5+": 3, "1-1": 1, "1+1": 1,
		"1E-07x": 5, "10 ": 2, "1_0": 1, "0x10": 1, "0a": 1, "1\u0661": 1, "1\xB1": 1,
	} {
		checks(t, b, 0, next, api.OK)
	}
	for _, b := range []string{"", "-", "0.", "-0.", "1.", "12.", "0e", "1E", "1e+", "1e-", "1.5e", "1.5E+", "-1.5e-"} {
		checks(t, b, 0, 0, api.ErrTrunc)
		checks(t, "1"+b, 1, 0, api.ErrTrunc)
		for _, behind := range []string{" ", "x", ",", "\x00", "\xFF", "\uFF11", "/", ":", "\xB1", "."} {
			checks(t, b+behind, 0, 0, api.ErrNumber)
			checks(t, b+behind+"0", 0, 0, api.ErrNumber)
			checks(t, "1"+b+behind, 1, 0, api.ErrNumber)
		}
	}
	for _, b := range []string{"--", "--1", "-+1", "+", "+1", ".", ".5", "e", "e5", "E5", "1.-5", "1.+5", "1.e", "1.E5", "1ee", "1eE5", "1e+-1", "1e--1", "1e+e", "-e", "-.5", "-.", "0.-", "0e.", "0.e"} {
		checks(t, b, 0, 0, api.ErrNumber)
	}
}

// P9.1: all short rows of the bytes that matter, from their first place and from a later one.
func TestCheckRows(t *testing.T) {
	for _, row := range rows("-+.eE019x", 5) {
		goes(t, []byte(row), 0)
		goes(t, []byte(row), min(1, len(row)))
		goes(t, []byte(row), min(2, len(row)))
	}
	for _, row := range rows("-.e07", 7) {
		goes(t, []byte(row), 0)
	}
}

// P9.1: of numbers and what is none each byte changed to each one, left out, or put in twice.
func TestCheckChanged(t *testing.T) {
	for _, b := range append(notNumbers(), "0", "-0", "907", "-12.50e+3", "0.0E-10", "1e5", "10.01") {
		goes(t, []byte(b), 0)
		for at := range len(b) {
			for x := range 256 {
				changed := []byte(b)
				changed[at] = byte(x)
				goes(t, changed, 0)
				goes(t, changed[:at+1], 0)
			}
			goes(t, []byte(b[:at]+b[at+1:]), 0)
			goes(t, []byte(b[:at]+b[at:at+1]+b[at:]), 0)
			goes(t, []byte(b[:at]), 0)
		}
	}
}

// P9.1: whole texts are numbers just if the library's JSON has them as such.
func TestCheckByLibrary(t *testing.T) {
	for _, s := range append(rows("-+.eE08", 6), append(notNumbers(), numbers()...)...) {
		want := len(s) > 0 && strings.IndexByte("-0123456789", s[0]) >= 0 && json.Valid([]byte(s)) && strings.TrimSpace(s) == s
		next, e := Check([]byte(s), 0)
		if is := e == api.OK && next == len(s); is != want {
			t.Errorf("Check(%q, 0): %d, %d; want a number: %v", s, next, e, want)
		}
	}
}

// P9.2: what is no number, from its first byte to its last one, is the same as nothing, and no Int.
func TestNotNumbers(t *testing.T) {
	for _, a := range notNumbers() {
		same(t, a, a, false)
		isNone(t, a)
		for _, b := range []string{"0", "1", "-1", "5", "10", "15e-1", "1e5", ""} {
			same(t, a, b, false)
		}
	}
	for _, s := range rows("-+.e01", 5) {
		if !form.MatchString(s) {
			same(t, s, s, false)
			isNone(t, s)
		}
	}
}

// P9.2, P9.4: each of many numbers with each one, by the library's fractions.
func TestSameByLibrary(t *testing.T) {
	all := numbers()
	for _, s := range rows("-.e012", 5) {
		if form.MatchString(s) && len(s) > 3 {
			all = append(all, s)
		}
	}
	told := make([]string, len(all))
	for i, s := range all {
		told[i] = ratio(s)
	}
	for i, a := range all {
		for j, b := range all {
			if is := Same(a, b); is != (told[i] == told[j]) {
				t.Fatalf("Same(%q, %q): %v", a, b, is)
			}
		}
	}
}

// P9.2: pairs that are written down.
func TestSame(t *testing.T) {
	for _, x := range [][2]string{
		{"0", "-0"}, {"0", "0.000"}, {"0", "0e5"}, {"-0.0e-5", "0E+7"}, {"1", "1.0"}, {"1", "1e0"}, {"1", "1e-0"}, {"1", "0.1e1"}, {"1", "10e-1"}, {"1", "1000000e-6"}, {"1", "0.000001e6"}, {"100", "1e2"},
		{"100", "1E+02"}, {"-120", "-1.2e2"}, {"0.001", "1e-3"}, {"0.001", "10e-4"}, {"101", "1.01e2"}, {"1e23", "100000000000000000000000"}, {"9007199254740993", "9.007199254740993e15"},
		{"1.7976931348623157e400", "17976931348623157e384"}, {"0.1", "0.1000000000000000000000"}, {"5e-324", "0.5e-323"},
	} {
		same(t, x[0], x[1], true)
	}
	for _, x := range [][2]string{
		{"0", "1"}, {"1", "-1"}, {"1", "10"}, {"1", "0.1"}, {"1", "1e1"}, {"1", "1e-1"}, {"1e1", "1e-1"}, {"101", "11"}, {"101", "1.1e2"}, {"12", "21"}, {"12", "1.2"}, {"0.01", "0.1"}, {"1e5", "1e50"}, {"0", "1e-9999"},
		{"0.1", "0.10000000000000000001"}, {"9007199254740992", "9007199254740993"}, {"18446744073709551617", "1"}, {"1e400", "1e401"}, {"1e400", "2e400"}, {"5e-400", "4e-400"}, {"1e999999999", "1e-999999999"},
	} {
		same(t, x[0], x[1], false)
		same(t, x[0], x[0], true)
		same(t, x[1], x[1], true)
	}
}

// P9.2: powers of 15 digits have a value, whichever sign they have and however many noughts ahead; those of 16 have none.
func TestGreatPowers(t *testing.T) {
	nines := strings.Repeat("9", powerDigits)
	for _, sign := range []string{"", "+", "-"} {
		for _, ahead := range []string{"", "0", strings.Repeat("0", 40)} {
			for _, body := range []string{"1", "-1", "10", "0.1", "-12.50", "0.00001", "100000"} {
				same(t, body+"e"+sign+ahead+nines, body+"E"+sign+nines, true)
				isNone(t, body+"e"+sign+ahead+nines)
				for _, beyond := range []string{"1" + strings.Repeat("0", powerDigits), "1" + nines, "9" + nines, nines + nines, "18446744073709551616", "18446744073709551617"} {
					s := body + "e" + sign + ahead + beyond
					same(t, s, s, false)
					same(t, s, body, false)
					same(t, s, "0", false)
					isNone(t, s)
				}
			}
		}
	}
	same(t, "1e999999999999999", "10e999999999999998", true)
	same(t, "10e999999999999999", "100e999999999999998", true)
	same(t, "10e999999999999999", "1e1000000000000000", false)
	same(t, "0.1e1000000000000000", "1e999999999999999", false)
	same(t, "0.1e-999999999999999", "0.01e-999999999999998", true)
	same(t, "0.1e-999999999999999", "1e-1000000000000000", false)
	same(t, "1e999999999999999", "1e-999999999999999", false)
	same(t, "1e999999999999999", "1e999999999999998", false)
	same(t, "1e4294967296", "1", false)
	same(t, "1e4294967297", "10", false)
}

// P9.2: noughts alone are 0, also with a power that is beyond.
func TestNoughts(t *testing.T) {
	for _, body := range []string{"0", "-0", "0.0", "-0.000", "0." + strings.Repeat("0", 400)} {
		for _, power := range []string{"", "e0", "E-5", "e+7", "e999999999999999", "e-999999999999999", "e1000000000000000", "e-1000000000000000", "E+" + strings.Repeat("9", 400), "e-" + strings.Repeat("0", 400)} {
			is(t, body+power, 0)
			same(t, body+power, "0", true)
			same(t, body+power, "-0.0e9999999999999999999", true)
			same(t, body+power, body+power, true)
			same(t, body+power, "1e-1000000000000000", false)
			same(t, body+power, "1e-999999999999999", false)
		}
	}
	for _, s := range []string{"0e", "0e-", "0.e5", "00e1000000000000000", "0e10000000000000000x"} {
		same(t, s, "0", false)
		isNone(t, s)
	}
}

// P9.4: what changes nothing: noughts behind the point's digits, the point moved with another power, the power's form.
func TestFormsOfOne(t *testing.T) {
	for _, digits := range []string{"1", "7", "12", "907", "1001", "123456789", "9007199254740993", "99999999999999999999999999"} {
		for _, sign := range []string{"", "-"} {
			var forms []string
			for cut := 1; cut < len(digits); cut++ {
				power := strconv.Itoa(len(digits) - cut)
				s := sign + digits[:cut] + "." + digits[cut:]
				forms = append(forms, s+"e"+power, s+"0E+"+power, s+"000e00"+power)
			}
			for n := range 30 {
				noughts, power := strings.Repeat("0", n), strconv.Itoa(n)
				forms = append(forms, sign+digits+"."+noughts+"0", sign+digits+noughts+"e-"+power, sign+"0."+noughts+digits+"e"+strconv.Itoa(n+len(digits)), sign+digits+noughts+".0e-"+power)
			}
			for _, a := range forms {
				same(t, a, sign+digits, true)
				same(t, a, sign+digits+"1", false)
				same(t, a, sign+digits+"e1", false)
				same(t, a, sign+digits+".1", false)
				for _, b := range forms {
					same(t, a, b, true)
				}
			}
		}
		same(t, digits, "-"+digits, false)
	}
}

// wholes are numbers above 0 that Int tells: about powers of two and ten, and the last ones.
func wholes() []int {
	l := []int{1, 2, 9, 10, 120, 907, 1<<31 - 1, 1 << 31, 1 << 32, 123456789012345, api.MaxNumber - 1, api.MaxNumber}
	for i := range 53 {
		l = append(l, 1<<(i+1)-1, 1<<i, 1<<i+1)
	}
	for n := 10; n < api.MaxNumber; n *= 10 {
		l = append(l, n-1, n, n+1, n/10*7)
	}
	return l
}

// P9.2, P9.5: whole numbers' texts, both signs, also with a power.
func TestInt(t *testing.T) {
	for _, m := range wholes() {
		for _, n := range []int{m, -m} {
			s := strconv.Itoa(n)
			for _, text := range []string{s, s + ".0", s + ".000", s + "e0", s + "E-0", s + "0e-1", s + "000E-3", s + "00.00e-02"} {
				is(t, text, n)
			}
			plain := strconv.Itoa(m)
			for cut := 1; cut < len(plain); cut++ {
				is(t, strings.TrimSuffix(s, plain)+plain[:cut]+"."+plain[cut:]+"e"+strconv.Itoa(len(plain)-cut), n)
			}
			is(t, strings.TrimSuffix(s, plain)+"0.0000"+plain+"e+"+strconv.Itoa(len(plain)+4), n)
			isNone(t, s+".5")
			isNone(t, s+".000000000000000000000000000001")
			isNone(t, s+"1e-1")
		}
	}
}

// P9.2: whole numbers that are too great, to each side, and with each way to write them.
func TestIntTooGreat(t *testing.T) {
	for _, s := range []string{
		"9007199254740992", "9007199254740993", "9007199254740999", "9007199254741000", "9999999999999999", "10000000000000000", "90071992547409910", "9223372036854775807", "9223372036854775808", "18446744073709551615",
		"18446744073709551616", "18446744073709551617", "36893488147419103233", "9007199254740992.0", "9007199254740992e0", "90071992547409920e-1", "0.9007199254740992e16", "9.007199254740992e15", "1e16", "10e15", "9e15000",
		"1e17", "1e19", "1e20", "1e63", "1e64", "1e99", "1e400", "1e4294967296", "1e999999999999999", "1e1000000000000000", "0.1e17", "1" + strings.Repeat("0", 400), strings.Repeat("9", 400),
	} {
		isNone(t, s)
		isNone(t, "-"+s)
	}
	for _, s := range []string{"9007199254740991.5", "0.5", "0.1", "1e-1", "1.5", "15e-1", "10e-2", "1.23e1", "1e-15", "1e-16", "1e-400", "1e-999999999999999", "0.00000000000000000001", "9007199254740991e-1", "123456789.000000001"} {
		isNone(t, s)
		isNone(t, "-"+s)
	}
}

// P9.2, P9.5: by the library's fractions; numbers that are the same have the same Int.
func TestIntByLibrary(t *testing.T) {
	told := map[string]int{}
	for _, s := range append(numbers(), rows("-.e0123", 5)...) {
		key := ratio(s)
		want, err := strconv.ParseInt(key, 10, 64)
		if key == "" || err != nil || max(want, -want) > api.MaxNumber {
			isNone(t, s)
			continue
		}
		is(t, s, int(want))
		n, _ := Int(s)
		if other, ok := told[key]; ok && n != other {
			t.Errorf("Int(%q): %d; of a number that is the same %d", s, n, other)
		}
		told[key] = n
	}
}

// P9.3: bytes and their spare room are as they were; what is told does not hang on the room.
func TestOnlyReads(t *testing.T) {
	for _, b := range append(numbers(), notNumbers()...) {
		room := []byte(b + "111e\xA5")
		was := bytes.Clone(room)
		for at := -1; at <= len(b)+1; at++ {
			goes(t, room[:len(b)], at)
		}
		if !bytes.Equal(room, was) {
			t.Errorf("%q became %q", was, room)
		}
	}
}

// P9.3: other bytes in the same memory are told of anew.
func TestKeepsNothing(t *testing.T) {
	room := make([]byte, 16)
	for range 2 {
		for _, b := range []string{"1", "-1.5e3", "x", "1.", "-", "", "12x", "0.00e-12"} {
			clear(room)
			goes(t, room[:copy(room, b)], 0)
		}
	}
	for range 2 {
		same(t, "1", "1.0", true)
		same(t, "1", "2", false)
		is(t, "12", 12)
		isNone(t, "x")
	}
}

// P9.1, P9.2, P9.4: long numbers.
func TestLong(t *testing.T) {
	const size = 1 << 20
	noughts, nines, power := strings.Repeat("0", size), strings.Repeat("9", size), strconv.Itoa(size)
	for _, s := range []string{nines, "-" + nines + "." + nines, "1" + noughts, "0." + noughts, "1e" + noughts, "1e-" + nines, nines + "." + noughts + "E+" + noughts} {
		checks(t, s, 0, len(s), api.OK)
		checks(t, s+",", 0, len(s), api.OK)
		checks(t, "x"+s+"-", 1, 1+len(s), api.OK)
		if strings.ContainsAny(s, "eE") {
			continue
		}
		checks(t, s+"e", 0, 0, api.ErrTrunc)
		checks(t, s+"e-x", 0, 0, api.ErrNumber)
		same(t, s+"e", s+"e", false)
		isNone(t, s+"x")
	}
	is(t, "1"+noughts+"e-"+power, 1)
	is(t, "-0."+noughts+"12e"+strconv.Itoa(size+2), -12)
	is(t, "907."+noughts, 907)
	is(t, "0."+noughts+"e"+nines, 0)
	is(t, "5e"+noughts+"3", 5000)
	isNone(t, "1"+noughts)
	isNone(t, "1."+noughts+"1")
	isNone(t, nines)
	same(t, "1"+noughts, "1e"+power, true)
	same(t, nines, "0."+nines+"0e"+power, true)
	same(t, nines, nines+"9", false)
	same(t, nines+"1", nines+"2", false)
	same(t, "1e-"+noughts+"5", "0.00001", true)
}
