package json

import (
	"bytes"
	std "encoding/json"
	"math"
	"strconv"
	"strings"
	"testing"
	"unicode/utf8"

	"colophon/api"
	"colophon/value"
)

// told is all that a value has, field by field, also what its kind does not have. Nil lists are as empty ones.
func told(v api.Value) string {
	var b strings.Builder
	var tell func(v api.Value)
	tell = func(v api.Value) {
		b.WriteString(strconv.Itoa(v.Kind) + " " + strconv.FormatBool(v.Is) + " " + strconv.Quote(v.Text) + " [")
		for _, name := range v.Names {
			b.WriteString(strconv.Quote(name) + ",")
		}
		b.WriteString("] (")
		for _, one := range v.List {
			tell(one)
			b.WriteString(";")
		}
		b.WriteString(")")
	}
	tell(v)
	return b.String()
}

// brief is a text for a message.
func brief(s string) string {
	if len(s) > 300 {
		return s[:150] + " .. " + s[len(s)-150:]
	}
	return s
}

// read is what the library reads a text as, token by token. The text is one.
func read(b []byte) api.Value {
	d := std.NewDecoder(bytes.NewReader(b))
	d.UseNumber()
	return readNext(d)
}

func readNext(d *std.Decoder) api.Value {
	token, err := d.Token()
	if err != nil {
		panic(err)
	}
	switch x := token.(type) {
	case bool:
		return api.Value{Kind: api.Bool, Is: x}
	case std.Number:
		return api.Value{Kind: api.Number, Text: string(x)}
	case string:
		return api.Value{Kind: api.String, Text: x}
	case std.Delim:
		v := api.Value{Kind: api.Array}
		if x == '{' {
			v.Kind = api.Object
		}
		for d.More() {
			if v.Kind == api.Object {
				v.Names = append(v.Names, readNext(d).Text)
			}
			v.List = append(v.List, readNext(d))
		}
		d.Token()
		return v
	}
	return api.Value{}
}

// tooDeep is the place of the first bracket outside of strings that stands in 128 lists, and what closes those; -1, if there is none. What is wrong is not looked at.
func tooDeep(b []byte) (at int, shut string) {
	var open []byte
	inside, escaped := false, false
	for at, c := range b {
		switch {
		case inside:
			inside = c != '"' || escaped
			escaped = c == '\\' && !escaped
		case c == '"':
			inside = true
		case c == '[' || c == '{':
			if len(open) == 128 {
				return at, string(open)
			}
			open = append([]byte{c + 2}, open...)
		case (c == ']' || c == '}') && len(open) > 0:
			open = open[1:]
		}
	}
	return -1, ""
}

// valid tells whether the library has bytes for a text.
func valid(b []byte) bool {
	return std.Valid(b) && utf8.Valid(b)
}

// witness is what Parse should answer: the library's answer. A bracket that is too deep is told, if with an empty list in its place, and all lists closed behind it, what stands there is a text.
func witness(b []byte) (api.Value, api.Errno) {
	if at, shut := tooDeep(b); at >= 0 {
		whole := string(b[:at]) + string([]byte{b[at], b[at] + 2}) + shut
		if valid([]byte(whole)) {
			return api.Value{}, api.ErrDepth
		}
		return api.Value{}, api.ErrJSON
	}
	if !valid(b) {
		return api.Value{}, api.ErrJSON
	}
	return read(b), api.OK
}

// parses holds Parse to a value.
func parses(t *testing.T, s string, want api.Value) {
	t.Helper()
	v, e := Parse([]byte(s))
	if e != api.OK || told(v) != told(want) {
		t.Errorf("Parse(%q): %s, %d; want %s", brief(s), brief(told(v)), e, brief(told(want)))
	}
}

// fails holds Parse to an error, and to nothing beside it.
func fails(t *testing.T, s string, want api.Errno) {
	t.Helper()
	if v, e := Parse([]byte(s)); e != want || told(v) != told(api.Value{}) {
		t.Errorf("Parse(%q): %s, %d; want %d", brief(s), brief(told(v)), e, want)
	}
}

// holds holds Parse to the witness.
func holds(t *testing.T, s string) {
	t.Helper()
	want, e := witness([]byte(s))
	if e != api.OK {
		fails(t, s, e)
		return
	}
	parses(t, s, want)
}

// prints holds Print to a text.
func prints(t *testing.T, v api.Value, want string) {
	t.Helper()
	if b, e := Print(v); e != api.OK || string(b) != want {
		t.Errorf("Print(%s): %q, %d; want %q", brief(told(v)), brief(string(b)), e, brief(want))
	}
}

// refuses holds Print to an error, and to nothing beside it.
func refuses(t *testing.T, v api.Value, want api.Errno) {
	t.Helper()
	if b, e := Print(v); e != want || len(b) != 0 {
		t.Errorf("Print(%s): %q, %d; want %d", brief(told(v)), brief(string(b)), e, want)
	}
}

// digits is a number of this text; str a string; array an array of these; object an object of these.
func digits(s string) api.Value      { return api.Value{Kind: api.Number, Text: s} }
func str(s string) api.Value         { return api.Value{Kind: api.String, Text: s} }
func array(l ...api.Value) api.Value { return api.Value{Kind: api.Array, List: l} }
func object(n string, l ...api.Value) api.Value {
	return api.Value{Kind: api.Object, Names: strings.Fields(n), List: l}
}

var (
	null  = api.Value{}
	yes   = api.Value{Kind: api.Bool, Is: true}
	no    = api.Value{Kind: api.Bool}
	one   = digits("1")
	empty = api.Value{Kind: api.Object}
)

// texts are some, with what they are, and what their form is.
var texts = []struct {
	text, form string
	v          api.Value
}{
	{"null", "null", null},
	{"true", "true", yes},
	{"false", "false", no},
	{"0", "0", digits("0")},
	{"-0", "-0", digits("-0")},
	{" -12.50E+07\n", "-12.50E+07", digits("-12.50E+07")},
	{"1e400", "1e400", digits("1e400")},
	{"1.0", "1.0", digits("1.0")},
	{`""`, `""`, str("")},
	{`"a b"`, `"a b"`, str("a b")},
	{`"[1,{}]:null"`, `"[1,{}]:null"`, str("[1,{}]:null")},
	{`"\u0041\/\"\\\b\f\n\r\t\u001F\u007f"`, `"A/\"\\\b\f\n\r\t\u001f` + "\x7F\"", str("A/\"\\\b\f\n\r\t\x1F\x7F")},
	{`"\ud83d\ude00\ud83d"`, "\"\U0001F600\uFFFD\"", str("\U0001F600\uFFFD")},
	{"\"\u00E9\u2028\"", "\"\u00E9\u2028\"", str("\u00E9\u2028")},
	{`"<&>"`, `"<&>"`, str("<&>")},
	{"[]", "[]", array()},
	{"[ \t\r\n]", "[]", array()},
	{"{}", "{}", empty},
	{"{ \t\r\n}", "{}", empty},
	{"[1]", "[1]", array(one)},
	{"[1, 1 ,1]", "[1,1,1]", array(one, one, one)},
	{"[[],[[]],{}]", "[[],[[]],{}]", array(array(), array(array()), empty)},
	{"[null,true,false,\"\",1,[],{}]", "[null,true,false,\"\",1,[],{}]", array(null, yes, no, str(""), one, array(), empty)},
	{`{"a":1}`, `{"a":1}`, object("a", one)},
	{`{"":1}`, `{"":1}`, api.Value{Kind: api.Object, Names: []string{""}, List: []api.Value{one}}},
	{`{"a": [1, -0.5e3], "a": null}`, `{"a":[1,-0.5e3],"a":null}`, object("a a", array(one, digits("-0.5e3")), null)},
	{`{"b":1,"a":true,"b":false}`, `{"b":1,"a":true,"b":false}`, object("b a b", one, yes, no)},
	{"\r{ \"a\" :\t{\"b\"\n:{\"c\": {} } }\n}\t", `{"a":{"b":{"c":{}}}}`, object("a", object("b", object("c", empty)))},
	{`{"\u0061\"":"a"}`, `{"a\"":"a"}`, object(`a"`, str("a"))},
}

// P11.1: texts of all kinds.
func TestParse(t *testing.T) {
	for _, x := range texts {
		parses(t, x.text, x.v)
		holds(t, x.text)
	}
}

// P11.1: texts that are none, in one way each.
func TestParseWrong(t *testing.T) {
	for _, s := range []string{
		"", " ", "\n\t\r ", "\x00", "\xEF\xBB\xBF1", "1\x00", "x", "nil", "[", "{", "]", "}", ",", ":", "1 2", "1,", "1 1", "null null", "[] []", "[]]", "{}}", "[]{}", "\"a\"\"b\"",
		"[1,]", "[,]", "[,1]", "[1,,1]", "[1 1]", "[1", "[1,", "[1}", "[1:1]", "[\"a\":1]", "[}", "[[]", "[]1", "[(1)]", "[1;1]",
		"{]", "{,}", "{1}", "{\"a\"}", "{\"a\" 1}", "{\"a\",1}", "{\"a\"=1}", "{\"a\":}", "{\"a\":,}", "{\"a\"::1}", "{\"a\":1,}", "{,\"a\":1}", "{\"a\":1 \"b\":1}", "{\"a\":1;\"b\":1}", "{\"a\":1]", "{\"a\":1", "{\"a\":", "{\"a\"", "{\"a",
		"{a:1}", "{'a':1}", "{1:1}", "{null:1}", "{[]:1}", "{{}:1}", "{\"a\":1:1}", "{\"a\":1,1}", "{\"a\":1,\"b\"}", "{\"a\":1,,\"b\":1}",
		"'a'", "/**/1", "1//", "#", "NaN", "Infinity", "-Infinity", "undefined", "\\u0031", "\xFF", "[\xFF]", "\u00A0", "\u20281", "1\u0085",
	} {
		fails(t, s, api.ErrJSON)
		holds(t, s)
	}
}

// rows calls f with all rows of so many pieces at most.
func rows(pieces []string, most int, f func(s string)) {
	var grow func(s string, left int)
	grow = func(s string, left int) {
		f(s)
		if left == 0 {
			return
		}
		for _, one := range pieces {
			grow(s+one, left-1)
		}
	}
	grow("", most)
}

// P11.1: all rows of a few words, and of a few bytes.
func TestParseRows(t *testing.T) {
	for _, x := range []struct {
		pieces []string
		most   int
	}{
		{[]string{"[", "]", "{", "}", ",", ":", "\"a\"", "1", " "}, 5},
		{[]string{"[", "]", "{", "}", ",", "\"a\":", "null"}, 6},
		{[]string{"[", "]", "\"", "\\", "u", "0", "1", "-", ".", "e", "t", "n", "\n", "\x00", "\xC3", "\xA9"}, 4},
	} {
		rows(x.pieces, x.most, func(s string) { holds(t, s) })
	}
}

// P11.1: texts with each of their bytes another one, left out, there twice, or one put in ahead of it.
func TestParseChanged(t *testing.T) {
	for _, x := range texts {
		s := x.text
		for at := range len(s) + 1 {
			for c := range 256 {
				holds(t, s[:at]+string([]byte{byte(c)})+s[at:])
				if at < len(s) {
					holds(t, s[:at]+string([]byte{byte(c)})+s[at+1:])
				}
			}
			if at < len(s) {
				holds(t, s[:at]+s[at+1:])
			}
		}
	}
}

// P11.1: each beginning of a text, but of a number, is none; nor is what has something behind it.
func TestParseBeginnings(t *testing.T) {
	for _, x := range texts {
		s := strings.TrimSpace(x.text)
		for at := range len(s) {
			if x.v.Kind == api.Number {
				holds(t, s[:at])
			} else {
				fails(t, s[:at], api.ErrJSON)
			}
		}
		for _, behind := range []string{"x", ",", "]", "}", ":", "\"", " 1", " null", "\v", "\x00", "[", "{"} {
			fails(t, s+behind, api.ErrJSON)
		}
	}
}

// P11.1: four bytes are blanks, between all words, any number of them; no other byte is, nor is any within a word.
func TestParseBlanks(t *testing.T) {
	words := []string{"", "{", "\"a\"", ":", "[", "1", ",", "null", ",", "\"b\"", ",", "{", "}", ",", "[", "]", "]", ",", "\"c\"", ":", "true", "}", ""}
	want := object("a c", array(one, null, str("b"), empty, array()), yes)
	parses(t, strings.Join(words, ""), want)
	for _, blank := range []string{" ", "\t", "\n", "\r", "\r\n", " \t\n\r", strings.Repeat("\n ", 50)} {
		parses(t, strings.Join(words, blank), want)
		for i := 1; i < len(words); i++ {
			parses(t, strings.Join(words[:i], "")+blank+strings.Join(words[i:], ""), want)
		}
	}
	for c := range 256 {
		if strings.IndexByte(" \t\n\r", byte(c)) >= 0 {
			continue
		}
		for i := 1; i < len(words); i++ {
			holds(t, strings.Join(words[:i], "")+string([]byte{byte(c)})+strings.Join(words[i:], ""))
		}
		for _, s := range []string{"[]", "{}", "null", "[null]"} {
			fails(t, string([]byte{byte(c)})+s, api.ErrJSON)
			fails(t, s+string([]byte{byte(c)}), api.ErrJSON)
		}
	}
	for _, s := range []string{"nu ll", "tr\nue", "1 .0", "1. 0", "- 1", "1e 5", "1 e5", "\"\n\"", "\"\t\"", "\"\\ n\"", "\"\\u 0041\""} {
		fails(t, s, api.ErrJSON)
	}
}

// P11.1: three words, all letters of which are small.
func TestParseWords(t *testing.T) {
	all := map[string]api.Value{"null": null, "true": yes, "false": no}
	for word, v := range all {
		for _, s := range []string{word, " " + word, word + "\n"} {
			parses(t, s, v)
		}
		parses(t, "["+word+","+word+"]", array(v, v))
		for at := range word {
			fails(t, word[:at], api.ErrJSON)
			fails(t, word[at+1:], api.ErrJSON)
			fails(t, word[:at]+strings.ToUpper(word[at:at+1])+word[at+1:], api.ErrJSON)
			fails(t, "[null,"+word[:at]+"]", api.ErrJSON)
		}
		for other := range all {
			fails(t, word+other, api.ErrJSON)
			fails(t, word[:2]+other[2:]+"x", api.ErrJSON)
		}
		for _, s := range []string{word + word[len(word)-1:], word + "s", "x" + word, "-" + word, word + "0", "0" + word, word + "\"\"", "\"\"" + word, "{" + word + ":1}", word + "[]"} {
			fails(t, s, api.ErrJSON)
		}
	}
	fails(t, strings.Repeat("null", 1<<18), api.ErrJSON)
}

// P11.1: a number's text is as it is written.
func TestParseNumbers(t *testing.T) {
	for _, s := range []string{"0", "-0", "7", "10", "-907", "0.0", "-0.10", "1e5", "1E5", "1e+05", "1E-0", "12.34e-56", "9007199254740993", "0e999999999999999999", strings.Repeat("9", 5000), "0." + strings.Repeat("0", 5000)} {
		parses(t, s, digits(s))
		parses(t, "["+s+","+s+"]", array(digits(s), digits(s)))
		parses(t, "{\"a\":"+s+"}", object("a", digits(s)))
	}
	for _, s := range []string{"00", "01", "-", "--1", "-01", "+1", ".5", "1.", "-.5", "1.e5", "1e", "1e+", "1E-", "1e5.0", "1e0x1", "0x10", "1_0", "1.2.3", "1-", "1+1", "1a", "1E+-5", "1e5e5", "\u0661", "0b1", "1f", "1,0"} {
		fails(t, s, api.ErrJSON)
		fails(t, "{\"a\":"+s+"}", api.ErrJSON)
	}
}

// P11.1: strings, as values and as names.
func TestParseStrings(t *testing.T) {
	for _, x := range []struct{ s, told string }{
		{``, ""}, {`a`, "a"}, {`\"`, `"`}, {`\\`, `\`}, {`\/`, "/"}, {`/`, "/"}, {`\b\f\n\r\t`, "\b\f\n\r\t"}, {`\u0000`, "\x00"}, {`\u00e9\u00E9`, "\u00E9\u00E9"}, {`\uFFFF`, "\uFFFF"}, {"\x7F", "\x7F"},
		{`\ud83d\ude00`, "\U0001F600"}, {`\uDBFF\uDFFF`, "\U0010FFFF"}, {`\ud83d`, "\uFFFD"}, {`\ude00\ud83d`, "\uFFFD\uFFFD"}, {`\ud83d\ud83d\ude00`, "\uFFFD\U0001F600"}, {"\U0010FFFF\uFFFD\u0800\u0080", "\U0010FFFF\uFFFD\u0800\u0080"},
		{`]`, "]"}, {`{"`[:1], "{"}, {`,:`, ",:"}, {`\\\"`, `\"`}, {`\\u0041`, `\u0041`},
	} {
		parses(t, `"`+x.s+`"`, str(x.told))
		parses(t, `{"`+x.s+`":"`+x.s+`"}`, api.Value{Kind: api.Object, Names: []string{x.told}, List: []api.Value{str(x.told)}})
	}
	for _, s := range []string{`\`, `\x`, `\U0041`, `\u004`, `\u004g`, `\u`, `\'`, `\0`, "\x00", "\n", "\x1F", "\xFF", "\xC3", "\x80", "\xC0\x80", "\xED\xA0\x80", "\xF4\x90\x80\x80", "\xF0\x9F\x98", `\ud83d\u12`, "\\\n"} {
		fails(t, `"`+s+`"`, api.ErrJSON)
		fails(t, `"`+s, api.ErrJSON)
		fails(t, `{"`+s+`":1}`, api.ErrJSON)
		fails(t, `{"a":"`+s+`"}`, api.ErrJSON)
	}
}

// deep are lists within one another, of these brackets by turns: how they begin, and how they end.
func deep(lists int, turns string) (open, shut string) {
	for i := range lists {
		if turns[i%len(turns)] == '[' {
			open, shut = open+"[", "]"+shut
		} else {
			open, shut = open+"{\"a\":", "}"+shut
		}
	}
	return open, shut
}

// P11.1: a bracket in 128 lists is too deep, whatever stands behind it; what is no list may stand there.
func TestParseDepth(t *testing.T) {
	for _, turns := range []string{"[", "{", "[{", "{[[", "{{{{["} {
		for _, n := range []int{1, 2, 126, 127, 128} {
			open, shut := deep(n, turns)
			for _, inside := range []string{"1", "null", "\"[{\"", " \"\\\"[\" "} {
				want := read([]byte(open + inside + shut))
				parses(t, open+inside+shut, want)
				holds(t, open+inside+shut)
			}
			for _, inside := range []string{"[]", "{}", " [ ] ", "[1,[", "{\"a\":1}", "{\"a\":{"} {
				holds(t, open+inside+shut)
			}
		}
		open, shut := deep(128, turns)
		for _, inside := range []string{"[]", "{}", " \n[", "{", "[[", "[}", "[x", "{1", "[\xFF", "[\x00", "[1,]", "{]"} {
			fails(t, open+inside, api.ErrDepth)
			fails(t, open+inside+shut, api.ErrDepth)
			fails(t, open+inside+shut+"x", api.ErrDepth)
			fails(t, "\r"+open+inside+"\"", api.ErrDepth)
		}
		for _, n := range []int{129, 130, 200, 1000} {
			open, shut := deep(n, turns)
			fails(t, open, api.ErrDepth)
			fails(t, open+shut, api.ErrDepth)
		}
	}
	parses(t, strings.Repeat("[", 128)+strings.Repeat("]", 128), read([]byte(strings.Repeat("[", 128)+strings.Repeat("]", 128))))
	fails(t, strings.Repeat("[", 129)+strings.Repeat("]", 129), api.ErrDepth)
}

// P11.1: what is wrong ahead of the bracket that is too deep is told first; a bracket that begins no value is wrong itself.
func TestParseDepthOrWrong(t *testing.T) {
	open, shut := deep(128, "[")
	for _, ahead := range []string{"x", "1", "1 ", "]", "1,,", ",", "1.", "\"\n\"", "\"\xFF\",", "nul", "null", "\"", "\"a\"", "\"\\x\",", ":", "}", "1:", "\x00", "01,", "\v", "1,2 "} {
		fails(t, open+ahead+"["+shut, api.ErrJSON)
		fails(t, open+ahead+"[", api.ErrJSON)
		fails(t, open+ahead+"{", api.ErrJSON)
		holds(t, open+ahead+"{}"+shut)
	}
	for _, ahead := range []string{"", " ", "1,", "null , ", "\"\\\"[\",", "1,2,3,\n", "\"\",", "-0.5e3,"} {
		fails(t, open+ahead+"["+shut, api.ErrDepth)
		fails(t, open+ahead+"{", api.ErrDepth)
	}
	open, shut = deep(127, "[")
	for _, ahead := range []string{"{", "{ ", "{\"a\"", "{\"a\":1", "{\"a\":1,", "{\"a\":1,\n", "{\"a\":1,\"b\"", "{\"a\":1,\"b\" "} {
		fails(t, open+ahead+"["+shut, api.ErrJSON)
		fails(t, open+ahead+"{", api.ErrJSON)
	}
	for _, ahead := range []string{"{\"a\":", "{\"a\" : ", "{\"a\":1,\"b\":", "[", "[],[", "{},{\"a\":", "[1],[2],[3, ", "{\"a\":[]},["} {
		holds(t, open+ahead+"[")
		holds(t, open+ahead+"{")
		holds(t, open+ahead+"["+shut)
	}
	fails(t, open+"{\"a\":[", api.ErrDepth)
	fails(t, open+"[],[{", api.ErrDepth)
	// A list is done where it ends: how many there are beside one another does not matter.
	parses(t, open+strings.Repeat("[],{},", 200)+"1"+shut, read([]byte(open+strings.Repeat("[],{},", 200)+"1"+shut)))
	fails(t, open+strings.Repeat("[],{},", 200)+"[["+shut, api.ErrDepth)
	fails(t, strings.Repeat("[]", 129), api.ErrJSON)
	fails(t, "[]"+open+"[[", api.ErrJSON)
}

// P11.1: long texts, right and wrong.
func TestParseLong(t *testing.T) {
	many := 1 << 16
	blank := strings.Repeat(" \n", many)
	parses(t, blank+"1"+blank, one)
	fails(t, blank, api.ErrJSON)
	fails(t, blank+"1"+blank+"1", api.ErrJSON)
	parses(t, "\""+strings.Repeat("a\\n\u00E9", many)+"\"", str(strings.Repeat("a\n\u00E9", many)))
	fails(t, "\""+strings.Repeat("a\\n\u00E9", many), api.ErrJSON)
	fails(t, strings.Repeat("[", many), api.ErrDepth)
	fails(t, strings.Repeat("]", many), api.ErrJSON)
	v, e := Parse([]byte("[" + strings.Repeat("{\"a\":[1]},", many) + "null]"))
	if e != api.OK || len(v.List) != many+1 || told(v.List[many-1]) != told(object("a", array(one))) || told(v.List[many]) != told(null) {
		t.Errorf("Parse of a long array: %d elements, %d", len(v.List), e)
	}
	fails(t, "["+strings.Repeat("{\"a\":[1]},", many)+"]", api.ErrJSON)
	v, e = Parse([]byte("{" + strings.Repeat("\"a\":1,", many) + "\"b\":[]}"))
	if e != api.OK || len(v.List) != many+1 || len(v.Names) != many+1 || v.Names[many-1] != "a" || v.Names[many] != "b" {
		t.Errorf("Parse of a long object: %d names, %d", len(v.Names), e)
	}
}

// form is what Print should answer of a value that may be; false, if it has no form.
func form(v api.Value) (string, bool) {
	switch v.Kind {
	case api.Null:
		return "null", true
	case api.Bool:
		return strconv.FormatBool(v.Is), true
	case api.Number:
		return v.Text, std.Valid([]byte(v.Text)) && v.Text == strings.TrimSpace(v.Text) && strings.ContainsRune("-0123456789", rune(v.Text[0]))
	case api.String:
		return quoted(v.Text), utf8.ValidString(v.Text)
	}
	var parts []string
	all := true
	for i, one := range v.List {
		part, ok := form(one)
		if v.Kind == api.Object {
			part = quoted(v.Names[i]) + ":" + part
			ok = ok && utf8.ValidString(v.Names[i])
		}
		parts = append(parts, part)
		all = all && ok
	}
	if v.Kind == api.Object {
		return "{" + strings.Join(parts, ",") + "}", all
	}
	return "[" + strings.Join(parts, ",") + "]", all
}

// quoted is a text as the form has it.
func quoted(s string) string {
	pairs := []string{"\"", "\\\"", "\\", "\\\\", "\b", "\\b", "\f", "\\f", "\n", "\\n", "\r", "\\r", "\t", "\\t"}
	for c := range 32 {
		pairs = append(pairs, string(rune(c)), "\\u00"+strconv.FormatInt(int64(c>>4), 16)+strconv.FormatInt(int64(c&15), 16))
	}
	return "\"" + strings.NewReplacer(pairs...).Replace(s) + "\""
}

// places are a value alone, and as a part of others, first, last, and between.
func places(v api.Value) []api.Value {
	return []api.Value{v, array(v), array(v, one), array(one, v), array(one, v, one), object("a", v), object("a b", v, one), object("a b", one, v), array(array(), array(object("a", v))), object("a b c", one, array(v), empty)}
}

// P11.2: the one form of values of all kinds, wherever they stand.
func TestPrint(t *testing.T) {
	for _, x := range texts {
		prints(t, x.v, x.form)
		for _, v := range places(x.v) {
			s, ok := form(v)
			if !ok {
				t.Errorf("no form of %q", x.text)
			}
			prints(t, v, s)
		}
	}
	prints(t, object("z a z", one, array(yes, no), object("y", null)), `{"z":1,"a":[true,false],"z":{"y":null}}`)
	prints(t, api.Value{Kind: api.Object, Names: []string{}, List: []api.Value{}}, "{}")
	prints(t, api.Value{Kind: api.Array, Names: []string{}, List: []api.Value{}}, "[]")
	prints(t, value.Number(math.MinInt), "-9223372036854775808")
}

// P11.2: each character of a text and of a name has its form; a text that is not UTF-8 has none.
func TestPrintTexts(t *testing.T) {
	var all strings.Builder
	for c := range 0x180 {
		all.WriteRune(rune(c))
	}
	for _, s := range []string{"", "a", "/", "\x7F", "\u2028\u2029", "<&>'", "\uFFFD", "\uFFFF", "\U0001F600", "\U0010FFFF", "\\u0041", "\\\"", "null", all.String()} {
		prints(t, str(s), quoted(s))
		prints(t, array(str(s), str(s)), "["+quoted(s)+","+quoted(s)+"]")
		prints(t, api.Value{Kind: api.Object, Names: []string{s}, List: []api.Value{str(s)}}, "{"+quoted(s)+":"+quoted(s)+"}")
	}
	for c := range 32 {
		prints(t, str(string(rune(c))), quoted(string(rune(c))))
	}
	for _, s := range []string{"\xFF", "\x80", "\xC3", "a\xC3", "\xC3a", "\xC0\x80", "\xED\xA0\x80", "\xED\xB0\x80", "\xF4\x90\x80\x80", "\xF0\x9F\x98", "\u00E9\xE9", "\xE9\u00E9"} {
		for _, v := range places(str(s)) {
			refuses(t, v, api.ErrJSON)
		}
		for _, v := range []api.Value{{Kind: api.Object, Names: []string{s}, List: []api.Value{one}}, {Kind: api.Object, Names: []string{"a", s, "b"}, List: []api.Value{one, one, one}}, {Kind: api.Object, Names: []string{s, "a"}, List: []api.Value{one, one}}} {
			for _, w := range places(v) {
				refuses(t, w, api.ErrJSON)
			}
		}
	}
}

// P11.2: numbers as their texts are; a text that is none, or has more than one, has no form.
func TestPrintNumbers(t *testing.T) {
	for _, s := range []string{"0", "-0", "10", "-0.5e3", "1E+05", "1.0", "1e999999999999999999", "9007199254740993"} {
		for _, v := range places(digits(s)) {
			want, _ := form(v)
			prints(t, v, want)
		}
		prints(t, digits(s), s)
	}
	for _, s := range []string{"", "-", "01", "-01", "+1", ".5", "1.", "1e", "1e+", "1.e5", " 1", "1 ", "1\n", "1,1", "1 1", "1]", "a", "null", "true", "\"1\"", "[]", "NaN", "0x1", "1_0", "\xFF", "1\x00", "1\xFF", "\u0661", "--1", "1-"} {
		for _, v := range places(digits(s)) {
			refuses(t, v, api.ErrJSON)
		}
	}
}

// P11.2: what may not be, and what is too deep, is told by value.Check, ahead of what has no form.
func TestPrintOfNone(t *testing.T) {
	for _, bad := range []api.Value{
		{Kind: -1}, {Kind: 6}, {Kind: math.MaxInt}, {Kind: math.MinInt}, {Kind: 6, Text: "\xFF"}, {Is: true}, {Text: "x"}, {List: []api.Value{one}}, {Names: []string{"a"}}, {Kind: api.Bool, Text: "true"}, {Kind: api.Number, Text: "1", Is: true},
		{Kind: api.Number, Text: "01", Is: true}, {Kind: api.String, Text: "\xFF", List: []api.Value{one}}, {Kind: api.Array, Text: "a"}, {Kind: api.Array, Names: []string{"a"}, List: []api.Value{one}},
		{Kind: api.Object, Names: []string{"a"}}, {Kind: api.Object, List: []api.Value{one}}, {Kind: api.Object, Names: []string{"\xFF", "a"}, List: []api.Value{one}}, {Kind: api.Object, Is: true},
	} {
		for _, v := range places(bad) {
			refuses(t, v, api.ErrArg)
			refuses(t, array(digits("01"), v), api.ErrArg)
			refuses(t, array(v, str("\xFF")), api.ErrArg)
			refuses(t, api.Value{Kind: api.Object, Names: []string{"\xFF"}, List: []api.Value{v}}, api.ErrArg)
		}
	}
	for _, n := range []int{127, 128, 129, 130, 500, 998} {
		for _, turns := range []string{"[", "{", "[{"} {
			for _, inside := range []api.Value{array(), one, digits("01"), str("\xFF"), {Kind: 6}} {
				v := nest(inside, n, turns)
				want := value.Check(v)
				if s, ok := form(v); want == api.OK && ok {
					prints(t, v, s)
					continue
				} else if want == api.OK {
					want = api.ErrJSON
				}
				refuses(t, v, want)
				refuses(t, array(str("\xFF"), v), max(want, value.Check(array(v))))
			}
		}
	}
	prints(t, nest(array(), 127, "["), strings.Repeat("[", 128)+strings.Repeat("]", 128))
	prints(t, nest(one, 127, "["), strings.Repeat("[", 127)+"1"+strings.Repeat("]", 127))
	refuses(t, nest(array(), 128, "["), api.ErrDepth)
	refuses(t, nest(one, 128, "["), api.ErrDepth)
	refuses(t, nest(digits("01"), 128, "{"), api.ErrDepth)
	refuses(t, nest(digits("01"), 127, "{"), api.ErrJSON)
}

// nest is a value in so many lists, arrays and objects by turns.
func nest(v api.Value, lists int, turns string) api.Value {
	for i := range lists {
		if turns[i%len(turns)] == '[' {
			v = array(v)
		} else {
			v = object("a", v)
		}
	}
	return v
}

// P11.3: bytes that are handed in are only read, their spare room neither changed nor read; the value is as it was when they change.
func TestParseMemory(t *testing.T) {
	for _, x := range texts {
		room := []byte(x.text + "]},\"x\" 1")
		b := room[:len(x.text)]
		v, e := Parse(b)
		if e != api.OK || told(v) != told(x.v) || string(room) != x.text+"]},\"x\" 1" {
			t.Errorf("Parse(%q) with room: %s, %d; the bytes are %q", x.text, told(v), e, room)
		}
		for i := range room {
			room[i] = '#'
		}
		if told(v) != told(x.v) {
			t.Errorf("Parse(%q) changed with its bytes: %s", x.text, told(v))
		}
	}
	for _, s := range []string{"[1", "{\"a\"", "nul", "\"x", "1.", "[1,"} {
		room := []byte(s + "0]}l\":1}")
		if _, e := Parse(room[:len(s)]); e != api.ErrJSON || string(room) != s+"0]}l\":1}" {
			t.Errorf("Parse(%q) with room: %d; the bytes are %q", s, e, room)
		}
	}
}

// spoil changes all that is in a value's lists, and in their room.
func spoil(v api.Value) {
	names, list := v.Names[:cap(v.Names)], v.List[:cap(v.List)]
	for i := range names {
		names[i] += "spoilt"
	}
	for i := range list {
		spoil(list[i])
		list[i] = api.Value{Kind: 9, Text: "spoilt"}
	}
}

// P11.3: what is parsed is new memory each time, and so is each list of it, its room too: none changes with another one.
func TestParseApart(t *testing.T) {
	for _, x := range texts {
		v, _ := Parse([]byte(x.text))
		w, _ := Parse([]byte(x.text))
		spoil(v)
		if told(w) != told(x.v) {
			t.Errorf("Parse(%q) changed with another one: %s", x.text, told(w))
		}
	}
	parts := []string{"[]", "{}", "[1]", "[1,1,1]", "[[],[]]", "{\"a\":1}", "{\"a\":1,\"b\":[1,1],\"c\":{}}"}
	s := "[" + strings.Join(parts, ",") + "]"
	for i := range parts {
		v, _ := Parse([]byte(s))
		spoil(v.List[i])
		for j, part := range parts {
			if want := read([]byte(part)); j != i && told(v.List[j]) != told(want) {
				t.Errorf("%s changed with %s: %s", part, parts[i], told(v.List[j]))
			}
		}
	}
}

// withRoom is a value like this one, its lists with spare room that has what may not be.
func withRoom(v api.Value) api.Value {
	names := append(append([]string{}, v.Names...), "\xFF", "room")
	list := []api.Value{}
	for _, one := range v.List {
		list = append(list, withRoom(one))
	}
	list = append(list, api.Value{Kind: 9}, str("room"))
	v.Names, v.List = names[:len(v.Names)], list[:len(v.List)]
	return v
}

// whole is a value's text with its lists' spare room.
func whole(v api.Value) string {
	v.Names, v.List = v.Names[:cap(v.Names)], append([]api.Value{}, v.List[:cap(v.List)]...)
	var below strings.Builder
	for _, one := range v.List {
		below.WriteString(whole(one) + ";")
	}
	return told(v) + below.String()
}

// P11.3: a value that is printed is only read, and what is printed is new memory each time.
func TestPrintMemory(t *testing.T) {
	for _, x := range texts {
		v := withRoom(x.v)
		was := whole(v)
		a, e := Print(v)
		b, _ := Print(v)
		if e != api.OK || string(a) != x.form || whole(v) != was {
			t.Errorf("Print of %q with room: %q, %d; the value is %s", x.text, a, e, whole(v))
		}
		for room, i := a[:cap(a)], 0; i < len(room); i++ {
			room[i] = '#'
		}
		if string(b) != x.form {
			t.Errorf("Print of %q changed with another one: %q", x.text, b)
		}
		if c, _ := Print(v); string(c) != x.form || whole(v) != was {
			t.Errorf("Print of %q came out otherwise the second time: %q", x.text, c)
		}
		spoil(v)
		if string(b) != x.form {
			t.Errorf("Print of %q changed with its value: %q", x.text, b)
		}
	}
	bad := withRoom(array(one, object("a", digits("01"))))
	was := whole(bad)
	refuses(t, bad, api.ErrJSON)
	if whole(bad) != was {
		t.Errorf("a value that has no form changed: %s", whole(bad))
	}
}

// dice throws numbers, the same ones each time.
type dice uint64

func (d *dice) throw(n int) int {
	*d = *d*6364136223846793005 + 1442695040888963407
	return int(*d>>33) % n
}

// pick is some value, so deep at most.
func (d *dice) pick(deep int) api.Value {
	sorts := 6
	if deep <= 1 {
		sorts = 4
	}
	numbers := []string{"0", "-0", "1", "-12", "1.50", "15e-1", "0.1E+9", "1234567890123456789"}
	names := []string{"a", "b", "", "\"", "\\", "\n\x00", "\u00E9", "\U0001F600", "/", "\uFFFD", "a b", "[1,2]"}
	switch d.throw(sorts) {
	case 0:
		return null
	case 1:
		return api.Value{Kind: api.Bool, Is: d.throw(2) == 1}
	case 2:
		return digits(numbers[d.throw(len(numbers))])
	case 3:
		return str(names[d.throw(len(names))] + names[d.throw(len(names))])
	case 4:
		v := array()
		for range d.throw(5) {
			v.List = append(v.List, d.pick(deep-1))
		}
		return v
	}
	v := object("")
	for range d.throw(5) {
		v.Names = append(v.Names, names[d.throw(len(names))])
		v.List = append(v.List, d.pick(deep-1))
	}
	return v
}

// loose is a text of a value, with some blanks between its words, and some escapes in its strings.
func (d *dice) loose(v api.Value) string {
	blank := func() string { return []string{"", "", " ", "\n", "\t\r", "   "}[d.throw(6)] }
	text := func(s string) string {
		var b strings.Builder
		for _, c := range s {
			switch q := quoted(string(c)); {
			case c <= 0xFFFF && d.throw(3) == 0:
				b.WriteString("\\u" + strings.Repeat("0", 4-len(strconv.FormatInt(int64(c), 16))) + strconv.FormatInt(int64(c), 16))
			case c == '/':
				b.WriteString("\\/")
			default:
				b.WriteString(q[1 : len(q)-1])
			}
		}
		return "\"" + b.String() + "\""
	}
	var parts []string
	for i, one := range v.List {
		part := d.loose(one)
		if v.Kind == api.Object {
			part = blank() + text(v.Names[i]) + blank() + ":" + part
		}
		parts = append(parts, part)
	}
	s := strings.Join(parts, ",")
	switch v.Kind {
	case api.Array:
		s = "[" + blank() + s + "]"
	case api.Object:
		s = "{" + blank() + s + blank() + "}"
	case api.String:
		s = text(v.Text)
	default:
		s, _ = form(v)
	}
	return blank() + s + blank()
}

// P11.4: what was printed is parsed as it was, with blanks around it, too; what is parsed is printed in no more bytes, and that is parsed as the same.
func TestRound(t *testing.T) {
	var d dice
	for range 20000 {
		v := d.pick(1 + d.throw(6))
		want, _ := form(v)
		prints(t, v, want)
		parses(t, want, v)
		parses(t, " \n"+want+"\t\r ", v)
		s := d.loose(v)
		parses(t, s, v)
		got, _ := Parse([]byte(s))
		prints(t, got, want)
		if len(want) > len(s) {
			t.Errorf("the print of %q is longer: %q", s, want)
		}
	}
}

// P11.4: the deepest values that may be.
func TestRoundDeep(t *testing.T) {
	for _, turns := range []string{"[", "{", "[{", "{{["} {
		for _, inside := range []api.Value{array(), empty, one, str("[{"), array(one, one), null} {
			for lists := 120; lists <= 127; lists++ {
				v := nest(inside, lists, turns)
				if value.Check(v) != api.OK {
					continue
				}
				s, _ := form(v)
				prints(t, v, s)
				parses(t, s, v)
			}
		}
	}
}

// P11.5: no two values have the same print, and none's is the beginning of another one's, but for numbers.
func TestPrintsApart(t *testing.T) {
	var d dice
	all := map[string]api.Value{}
	keep := func(v api.Value) {
		b, e := Print(v)
		if was, ok := all[string(b)]; e != api.OK || ok && told(was) != told(v) {
			t.Errorf("%s and %s have the print %q, %d", told(was), told(v), b, e)
		}
		all[string(b)] = v
	}
	for _, x := range texts {
		keep(x.v)
	}
	for _, s := range []string{"0.0", "1.00", "1e0", "10", "1E0"} {
		keep(digits(s))
		keep(str(s))
		keep(array(digits(s)))
	}
	for range 1500 {
		keep(d.pick(3))
	}
	for a, v := range all {
		for b := range all {
			if a != b && v.Kind != api.Number && strings.HasPrefix(b, a) {
				t.Errorf("the print %q is the beginning of %q", a, b)
			}
		}
	}
}
