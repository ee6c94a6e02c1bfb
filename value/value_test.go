package value

import (
	"encoding/json"
	"math"
	"math/big"
	"slices"
	"strconv"
	"strings"
	"testing"

	"colophon/api"
)

// told is all that a value has, field by field, also what its kind does not have: two values have the same text just if all their fields are the same. Nil lists are as empty ones.
func told(v api.Value) string {
	var b strings.Builder
	tell(&b, v, false)
	return b.String()
}

// toldWithRoom is the same with the lists' spare room.
func toldWithRoom(v api.Value) string {
	var b strings.Builder
	tell(&b, v, true)
	return b.String()
}

func tell(b *strings.Builder, v api.Value, room bool) {
	b.WriteString(strconv.Itoa(v.Kind) + " " + strconv.FormatBool(v.Is) + " " + strconv.Quote(v.Text) + " [")
	names, list := v.Names, v.List
	if room {
		b.WriteString(strconv.Itoa(len(names)) + "," + strconv.Itoa(len(list)) + ":")
		names, list = names[:cap(names)], list[:cap(list)]
	}
	for _, name := range names {
		b.WriteString(strconv.Quote(name) + ",")
	}
	b.WriteString("] (")
	for _, one := range list {
		tell(b, one, room)
		b.WriteString(";")
	}
	b.WriteString(")")
}

// brief is a value for a message.
func brief(v api.Value) string {
	if levels(v) > 20 {
		return "a value " + strconv.Itoa(levels(v)) + " deep"
	}
	if s := told(v); len(s) < 300 {
		return s
	}
	return told(v)[:300] + ".."
}

// levels is how deep a value is, one level of lists at a time.
func levels(v api.Value) int {
	n := 0
	for level := []api.Value{v}; len(level) > 0; n++ {
		var next []api.Value
		for _, one := range level {
			next = append(next, one.List...)
		}
		level = next
	}
	return n
}

// rebuilt is a value of the same kind, with the fields that the kind has, as the chapter has them, in all its lists. Of a kind that there is not it is one that is none.
func rebuilt(v api.Value) api.Value {
	var list []api.Value
	for _, one := range v.List {
		list = append(list, rebuilt(one))
	}
	n := min(len(list), len(v.Names))
	made := map[int]api.Value{
		api.Null:   {},
		api.Bool:   {Kind: api.Bool, Is: v.Is},
		api.Number: {Kind: api.Number, Text: v.Text},
		api.String: {Kind: api.String, Text: v.Text},
		api.Array:  {Kind: api.Array, List: list},
		api.Object: {Kind: api.Object, Names: v.Names[:n], List: list[:n]},
	}
	if one, ok := made[v.Kind]; ok {
		return one
	}
	return api.Value{Kind: v.Kind, Text: v.Text + "none"}
}

// witness is what Check should tell.
func witness(v api.Value) api.Errno {
	switch {
	case told(rebuilt(v)) != told(v):
		return api.ErrArg
	case levels(v) > 128:
		return api.ErrDepth
	}
	return api.OK
}

// checks holds Check to an answer.
func checks(t *testing.T, v api.Value, want api.Errno) {
	t.Helper()
	if e := Check(v); e != want {
		t.Errorf("Check(%s): %d; want %d", brief(v), e, want)
	}
}

// is holds a value to another one, in all fields.
func is(t *testing.T, what string, v, want api.Value) {
	t.Helper()
	if told(v) != told(want) {
		t.Errorf("%s: %s; want %s", what, brief(v), brief(want))
	}
}

// gets holds Get to a value.
func gets(t *testing.T, v api.Value, name string, want api.Value) {
	t.Helper()
	one, ok := Get(v, name)
	if !ok {
		t.Errorf("Get(%s, %q): nothing", brief(v), name)
	}
	is(t, "Get("+brief(v)+", "+strconv.Quote(name)+")", one, want)
}

// getsNone holds Get to telling nothing.
func getsNone(t *testing.T, v api.Value, name string) {
	t.Helper()
	if one, ok := Get(v, name); ok || told(one) != told(api.Value{}) {
		t.Errorf("Get(%s, %q): %s, %v; want nothing", brief(v), name, brief(one), ok)
	}
}

// object is what Make should answer.
func object(names []string, l ...api.Value) api.Value {
	return api.Value{Kind: api.Object, Names: names, List: l}
}

// array is what List should answer.
func array(l ...api.Value) api.Value {
	return api.Value{Kind: api.Array, List: l}
}

// nest is a value in so many lists, in arrays and objects by turns.
func nest(v api.Value, lists int) api.Value {
	for i := range lists {
		if i%2 == 0 {
			v = array(v)
		} else {
			v = object([]string{"a"}, v)
		}
	}
	return v
}

// plain are values that may be.
func plain() []api.Value {
	one := Number(1)
	l := []api.Value{
		{}, Bool(false), Bool(true), one, Number(0), Number(-12), {Kind: api.Number, Text: "1.0"}, {Kind: api.Number, Text: "-0.5e3"}, {Kind: api.Number}, {Kind: api.Number, Text: "x"},
		{Kind: api.String}, Text("1"), Text("a"), Text("A"), Text("a\x00"), Text("\xFF"), Text("\u00E9"), Text("e\u0301"), Text("\U0001F600"), array(), array(api.Value{}), array(array()), array(array(one)),
		array(one, Text("1")), array(Text("1"), one), array(one, one), array(one, one, one), array(array(one), one), array(array(one, one)), object(nil), object([]string{""}, api.Value{}), object([]string{"a"}, api.Value{}),
		object([]string{"a"}, one), object([]string{"b"}, one), object([]string{"A"}, one), object([]string{"a", "b"}, one, one), object([]string{"b", "a"}, one, one), object([]string{"a", "a"}, one, Bool(true)),
		object([]string{"a", "a"}, Bool(true), one), object([]string{"a", "b", "a"}, one, array(one, Text("x")), Number(3)), object([]string{"a"}, object([]string{"a"}, one)), object([]string{"\xFF", "\x00"}, one, one),
		object([]string{"a"}, object([]string{"b"}, object([]string{"c"}, array(object(nil))))), array(object(nil), array(), api.Value{}, Bool(false), Text(""), Number(0)),
	}
	return append(l, nest(api.Value{}, 126), nest(one, 127))
}

// fields are values of all kinds, also of such that there are not, with each field as it may be and may not be.
func fields() []api.Value {
	names := [][]string{nil, {}, {""}, {"a"}, {"a", "b"}, {"a", "a"}}
	lists := [][]api.Value{nil, {}, {{}}, {{Kind: api.Bool, Is: true}}, {{Is: true}}, {{}, {}}}
	var all []api.Value
	for kind := -1; kind <= 6; kind++ {
		for _, is := range []bool{false, true} {
			for _, text := range []string{"", "x"} {
				for _, n := range names {
					for _, l := range lists {
						all = append(all, api.Value{Kind: kind, Is: is, Text: text, Names: n, List: l})
					}
				}
			}
		}
	}
	return all
}

// wrong are values that may not be, by one field each.
func wrong() []api.Value {
	var l []api.Value
	for _, kind := range []int{math.MinInt, -7, -1, 6, 7, 256, 1 << 32, 1<<32 + 1, math.MaxInt} {
		l = append(l, api.Value{Kind: kind}, api.Value{Kind: kind, Text: "x"}, array(api.Value{Kind: kind}))
	}
	one := []api.Value{Number(1)}
	a := []string{"a"}
	return append(l,
		api.Value{Is: true}, api.Value{Text: "x"}, api.Value{Names: a}, api.Value{List: one}, api.Value{Names: a, List: one}, api.Value{Text: "null"},
		api.Value{Kind: api.Bool, Text: "x"}, api.Value{Kind: api.Bool, Is: true, Text: "true"}, api.Value{Kind: api.Bool, Names: a}, api.Value{Kind: api.Bool, Is: true, List: one},
		api.Value{Kind: api.Number, Text: "1", Is: true}, api.Value{Kind: api.Number, Text: "1", Names: a}, api.Value{Kind: api.Number, Text: "1", List: one},
		api.Value{Kind: api.String, Is: true}, api.Value{Kind: api.String, Names: a}, api.Value{Kind: api.String, List: one},
		api.Value{Kind: api.Array, Is: true}, api.Value{Kind: api.Array, Text: "x"}, api.Value{Kind: api.Array, Names: a}, api.Value{Kind: api.Array, Names: a, List: one},
		api.Value{Kind: api.Object, Is: true}, api.Value{Kind: api.Object, Text: "x"}, api.Value{Kind: api.Object, Names: a}, api.Value{Kind: api.Object, List: one},
		api.Value{Kind: api.Object, Names: []string{"a", "b"}, List: one}, api.Value{Kind: api.Object, Names: a, List: []api.Value{one[0], one[0]}}, api.Value{Kind: api.Object, Names: []string{""}},
		api.Value{Kind: api.Object, Names: a, List: one, Is: true}, api.Value{Kind: api.Object, Names: a, List: one, Text: "x"},
	)
}

// every are all of these.
func every() []api.Value {
	return slices.Concat(plain(), wrong(), fields())
}

// The chapter's examples.
func TestExamples(t *testing.T) {
	checks(t, api.Value{Kind: api.Bool, Text: "x"}, api.ErrArg)
	checks(t, api.Value{Kind: api.Object, Names: []string{"a"}}, api.ErrArg)
	checks(t, api.Value{Kind: 6}, api.ErrArg)
	for _, x := range []struct {
		v    api.Value
		want int
	}{{api.Value{}, 1}, {List(), 1}, {List(List(Number(1))), 3}} {
		if n := Depth(x.v); n != x.want {
			t.Errorf("Depth(%s): %d; want %d", brief(x.v), n, x.want)
		}
	}
	v, e := Make([]string{"a", "b", "a"}, Number(1), Number(2), Number(3))
	if e != api.OK {
		t.Errorf("Make: %d", e)
	}
	gets(t, v, "a", Number(3))
	getsNone(t, v, "c")
	if Equal(Number(1), api.Value{Kind: api.Number, Text: "1.0"}) {
		t.Error("the Numbers 1 and 1.0 are alike")
	}
	if s := Number(-12).Text; s != "-12" {
		t.Errorf("Number(-12).Text: %q", s)
	}
}

// P10.1: values that may be, values with one field too many, and all kinds with all fields.
func TestCheck(t *testing.T) {
	for _, v := range plain() {
		checks(t, v, api.OK)
	}
	for _, v := range wrong() {
		checks(t, v, api.ErrArg)
	}
	for _, v := range fields() {
		checks(t, v, witness(v))
		checks(t, array(v), witness(v))
		checks(t, object([]string{"a"}, v), witness(v))
	}
}

// P10.1: what may not be is told wherever it stands in a value, what may be nowhere.
func TestCheckWithin(t *testing.T) {
	for _, v := range append(wrong(), plain()...) {
		for at := range 3 {
			list := []api.Value{Number(1), Text("x"), {}}
			list[at] = v
			checks(t, array(array(list...)), witness(array(array(list...))))
			checks(t, object([]string{"a", "b", "c"}, list...), witness(object([]string{"a", "b", "c"}, list...)))
		}
	}
	for _, kind := range []int{api.Null, api.Bool, api.Number, api.String, 6, -1} {
		checks(t, api.Value{Kind: kind, List: []api.Value{{}}}, api.ErrArg)
	}
}

// P10.1: 128 may be, 129 may not, whatever is innermost; what may not be is told ahead of the depth, wherever it stands.
func TestCheckDepth(t *testing.T) {
	for _, inner := range []api.Value{{}, Number(1), Text("x"), array(), object(nil)} {
		for _, lists := range []int{0, 1, 2, 63, 126, 127, 128, 129, 200, 255, 256, 257, 999} {
			want := api.OK
			if lists > 127 {
				want = api.ErrDepth
			}
			v := nest(inner, lists)
			checks(t, v, want)
			checks(t, array(array(), v, api.Value{}), witness(array(v)))
			checks(t, nest(api.Value{Is: true}, lists), api.ErrArg)
			checks(t, array(v, api.Value{Kind: 6}), api.ErrArg)
			checks(t, array(api.Value{Kind: 6}, v), api.ErrArg)
			v.Is = true
			checks(t, v, api.ErrArg)
		}
	}
	deep := nest(api.Value{}, 126)
	checks(t, array(deep, deep, deep), api.OK)
	checks(t, array(api.Value{}, array(deep), api.Value{}), api.ErrDepth)
}

// P10.1: of values that may be and of others, by their lists alone.
func TestDepth(t *testing.T) {
	for _, v := range every() {
		if n := Depth(v); n != levels(v) {
			t.Errorf("Depth(%s): %d; want %d", brief(v), n, levels(v))
		}
		if n := Depth(array(Text("x"), array(v), api.Value{})); n != levels(v)+2 {
			t.Errorf("Depth of %s in two lists: %d", brief(v), n)
		}
	}
	for kind := -1; kind <= 6; kind++ {
		v := api.Value{Kind: kind, Names: []string{"a", "b"}, List: []api.Value{{}, {Kind: kind, List: []api.Value{{Kind: kind}}}, {}}}
		if n := Depth(v); n != 3 {
			t.Errorf("Depth(%s): %d; want 3", brief(v), n)
		}
		if n := Depth(api.Value{Kind: kind, Names: []string{"a"}}); n != 1 {
			t.Errorf("Depth of the kind %d with a name alone: %d; want 1", kind, n)
		}
	}
	for _, lists := range []int{1, 127, 128, 129, 999} {
		if n := Depth(nest(api.Value{}, lists)); n != lists+1 {
			t.Errorf("Depth of %d lists: %d", lists, n)
		}
	}
}

// P10.2, P10.6: each of many values with each one, also of such that may not be: alike just if all fields are the same. So what is told goes both ways, and from one to the next.
func TestEqual(t *testing.T) {
	all := every()
	texts := make([]string, len(all))
	for i, v := range all {
		texts[i] = told(v)
	}
	for i, a := range all {
		for j, b := range all {
			if is := Equal(a, b); is != (texts[i] == texts[j]) {
				t.Fatalf("Equal(%s, %s): %v", brief(a), brief(b), is)
			}
		}
	}
}

// P10.2: values in lists, with one field changed within.
func TestEqualWithin(t *testing.T) {
	some := append(plain(), wrong()...)
	for _, a := range some {
		for _, b := range some {
			want := told(a) == told(b)
			for _, x := range [][2]api.Value{
				{array(a), array(b)}, {array(api.Value{}, a), array(api.Value{}, b)}, {array(a, api.Value{}), array(b, api.Value{})}, {object([]string{"a"}, a), object([]string{"a"}, b)},
				{api.Value{Kind: 6, List: []api.Value{a}}, api.Value{Kind: 6, List: []api.Value{b}}}, {api.Value{List: []api.Value{{List: []api.Value{a}}}}, api.Value{List: []api.Value{{List: []api.Value{b}}}}},
			} {
				if is := Equal(x[0], x[1]); is != want {
					t.Fatalf("Equal(%s, %s): %v", brief(x[0]), brief(x[1]), is)
				}
			}
			if Equal(array(a), array(a, b)) || Equal(array(a, b), array(a)) || Equal(array(a), object([]string{"a"}, a)) {
				t.Fatalf("alike: lists of %s and %s", brief(a), brief(b))
			}
		}
	}
}

// P10.2: lists without elements are alike, nil or not, at each place, whatever room they have.
func TestEqualEmpty(t *testing.T) {
	names := [][]string{nil, {}, make([]string, 0, 2)}
	lists := [][]api.Value{nil, {}, make([]api.Value, 0, 2)}
	for kind := -1; kind <= 6; kind++ {
		first := api.Value{Kind: kind}
		for _, n := range names {
			for _, l := range lists {
				v := api.Value{Kind: kind, Names: n, List: l}
				if !Equal(v, first) || !Equal(first, v) || !Equal(array(v), array(first)) || Check(v) != Check(first) || !Equal(Copy(v), first) {
					t.Errorf("the kind %d: empty lists are unlike", kind)
				}
			}
		}
	}
}

// own holds values to standing in memory that none of them shares with another one, nor a list of one with another of its lists, the spare room neither.
func own(t *testing.T, what string, all ...api.Value) {
	t.Helper()
	values, names := map[*api.Value]bool{}, map[*string]bool{}
	var walk func(v api.Value) bool
	walk = func(v api.Value) bool {
		list, texts := v.List[:cap(v.List)], v.Names[:cap(v.Names)]
		for i := range texts {
			if names[&texts[i]] {
				return false
			}
			names[&texts[i]] = true
		}
		for i := range list {
			if values[&list[i]] {
				return false
			}
			values[&list[i]] = true
			if !walk(list[i]) {
				return false
			}
		}
		return true
	}
	for _, v := range all {
		if !walk(v) {
			t.Errorf("%s: memory is shared", what)
			return
		}
	}
}

// P10.2, P10.5, P10.6: a copy is as its value, also of one that may not be, in memory of its own, the second one of it too.
func TestCopy(t *testing.T) {
	for _, v := range every() {
		a, b := Copy(v), Copy(v)
		is(t, "Copy", a, v)
		is(t, "Copy", b, v)
		if !Equal(a, v) || !Equal(v, a) || !Equal(a, b) {
			t.Errorf("a copy is unlike %s", brief(v))
		}
		own(t, "Copy of "+brief(v), a, b)
		// The values that are handed in share lists among each other: so each copy is held to its own one by what changes.
		was := told(v)
		spoil(a)
		if told(v) != was || told(b) != was {
			t.Errorf("%s changed with its copy", was)
		}
	}
}

// spoil changes all that is in a value's lists, and in their room.
func spoil(v api.Value) {
	names, list := v.Names[:cap(v.Names)], v.List[:cap(v.List)]
	for i := range names {
		names[i] += "spoilt"
	}
	for i := range list {
		spoil(list[i])
		list[i] = api.Value{Kind: 9, Text: "spoilt"}
	}
}

// P10.6: what changes in either of both, at whichever place, changes nothing in the other one.
func TestCopyApart(t *testing.T) {
	for _, fresh := range []func() api.Value{
		func() api.Value { return array(Number(1), array(Text("x"), array(Bool(true)))) },
		func() api.Value {
			return object([]string{"a", "b"}, object([]string{"c"}, array(Number(1))), object([]string{"d", "e"}, Number(2), object([]string{"f"}, Text("y"))))
		},
		func() api.Value { // what its kind does not have is copied as well
			return api.Value{Kind: api.String, Text: "x", Names: []string{"a"}, List: []api.Value{{Kind: 7, Names: []string{"b"}, List: []api.Value{Number(1)}}}}
		},
	} {
		v := fresh()
		w := Copy(v)
		spoil(v)
		is(t, "a copy whose value changed", w, fresh())
		v = fresh()
		w = Copy(v)
		spoil(w)
		is(t, "a value whose copy changed", v, fresh())
		v = fresh()
		w = Copy(v)
		v.List = append(v.List[:0], api.Value{Kind: 9})
		v.Names = append(v.Names[:0], "z")
		is(t, "a copy whose value has another element", w, fresh())
	}
	// One list at two places is two in the copy.
	shared := []api.Value{Number(1)}
	w := Copy(array(array(shared...), array(shared...)))
	w.List[0].List[0].Text = "2"
	is(t, "Copy of shared lists", w, array(array(Number(2)), array(Number(1))))
}

// P10.3: the last one of a name; names are told byte by byte.
func TestGet(t *testing.T) {
	names := []string{"a", "", "b", "a", "A", "a\x00", "\xFF", "\u00E9", "e\u0301", "", "ab", "a "}
	var l []api.Value
	last := map[string]int{}
	for i, name := range names {
		l = append(l, array(Number(i)))
		last[name] = i
	}
	v := object(names, l...)
	for name, i := range last {
		gets(t, v, name, l[i])
	}
	for _, name := range []string{"c", "B", "\x00", "\xFE", "e", "aa", " a", "abc", "\uFFFD", "null"} {
		getsNone(t, v, name)
	}
	for n := range names {
		v := object(names[:n], l[:n]...)
		for _, name := range names {
			if i := lastOf(names[:n], name); i < 0 {
				getsNone(t, v, name)
			} else {
				gets(t, v, name, l[i])
			}
		}
	}
	// Names of objects within are not looked through; a null that is there is one.
	getsNone(t, object([]string{"a"}, object([]string{"b"}, Number(1))), "b")
	gets(t, object([]string{"a", "a"}, Number(1), api.Value{}), "a", api.Value{})
}

// lastOf is the last place of a name; -1, if there is none.
func lastOf(names []string, name string) int {
	at := -1
	for i, one := range names {
		if one == name {
			at = i
		}
	}
	return at
}

// P10.3: all kinds, with fields that may not be: nothing, but of an Object, of whose lists those count that stand in both.
func TestGetOfAny(t *testing.T) {
	for _, v := range every() {
		for _, name := range []string{"", "a", "b", "c", "x"} {
			n := min(len(v.Names), len(v.List))
			at := lastOf(v.Names[:n], name)
			if v.Kind != api.Object || at < 0 {
				getsNone(t, v, name)
				continue
			}
			gets(t, v, name, v.List[at])
		}
	}
	one, two := Number(1), Number(2)
	gets(t, api.Value{Kind: api.Object, Names: []string{"a", "a"}, List: []api.Value{one}}, "a", one)
	gets(t, api.Value{Kind: api.Object, Names: []string{"a", "b", "a", "a"}, List: []api.Value{one, two}}, "a", one)
	gets(t, api.Value{Kind: api.Object, Names: []string{"a"}, List: []api.Value{one, two}}, "a", one)
	getsNone(t, api.Value{Kind: api.Object, Names: []string{"a", "b"}, List: []api.Value{one}}, "b")
	getsNone(t, api.Value{Kind: api.Object, List: []api.Value{one}}, "")
	getsNone(t, api.Value{Kind: api.Object, Names: []string{"a"}}, "a")
	// Room behind the lists has no members.
	room, names := []api.Value{one, two}, []string{"a", "a"}
	gets(t, api.Value{Kind: api.Object, Names: names[:2], List: room[:1]}, "a", one)
	gets(t, api.Value{Kind: api.Object, Names: names[:1], List: room[:2]}, "a", one)
	gets(t, api.Value{Kind: api.Object, Names: names, List: []api.Value{one, {Kind: 9, Is: true}}}, "a", api.Value{Kind: 9, Is: true})
}

// P10.4: texts as they are, also such that are no UTF-8; both Bools.
func TestTextAndBool(t *testing.T) {
	for _, s := range []string{"", "a", "1", "null", "\x00", "\xFF", "\"\\\n", "\u00E9\U0001F600", strings.Repeat("x", 1<<20)} {
		is(t, "Text", Text(s), api.Value{Kind: api.String, Text: s})
		checks(t, Text(s), api.OK)
	}
	is(t, "Bool(true)", Bool(true), api.Value{Kind: api.Bool, Is: true})
	is(t, "Bool(false)", Bool(false), api.Value{Kind: api.Bool})
	checks(t, Bool(true), api.OK)
	checks(t, Bool(false), api.OK)
}

// P10.4: numbers about powers of two and ten, of both signs, and the last ones of each.
func TestNumber(t *testing.T) {
	all := []int{0, 12, 120, 907, math.MinInt, math.MinInt + 1, math.MaxInt, math.MaxInt - 1, api.MaxNumber, api.MaxNumber + 1}
	for i := range 63 {
		all = append(all, 1<<i-1, 1<<i, 1<<i+1)
	}
	for n := 1; n <= math.MaxInt/10; n *= 10 {
		all = append(all, n*10-1, n*10, n*10+1, n*7)
	}
	for _, m := range all {
		for _, n := range []int{m, -m} {
			want := big.NewInt(int64(n)).String()
			is(t, "Number("+want+")", Number(n), api.Value{Kind: api.Number, Text: want})
			checks(t, Number(n), api.OK)
		}
	}
	for n, s := range map[int]string{0: "0", 7: "7", -1: "-1", 10: "10", -100: "-100", math.MinInt: "-9223372036854775808", math.MaxInt: "9223372036854775807"} {
		is(t, "Number", Number(n), api.Value{Kind: api.Number, Text: s})
	}
}

// P10.4, P10.7: arrays have what they are made of, in its order, also what may not be; they are one deeper.
func TestList(t *testing.T) {
	is(t, "List()", List(), api.Value{Kind: api.Array})
	is(t, "List(nil...)", List(nil...), api.Value{Kind: api.Array})
	checks(t, List(), api.OK)
	all := every()
	for i, v := range all {
		is(t, "List", List(v), array(v))
		if n := Depth(List(v)); n != Depth(v)+1 {
			t.Errorf("Depth of a list of %s: %d", brief(v), n)
		}
		w := all[(i*7+1)%len(all)]
		l := List(v, w, v)
		is(t, "List", l, array(v, w, v))
		if n := Depth(l); n != max(Depth(v), Depth(w))+1 {
			t.Errorf("Depth of a list of %s, %s: %d", brief(v), brief(w), n)
		}
		checks(t, l, witness(array(v, w, v)))
	}
	is(t, "List of many", List(all...), array(all...))
}

// P10.4, P10.7: objects have their names and values in order; Get tells the last one of each name.
func TestMake(t *testing.T) {
	all := every()
	for _, names := range [][]string{nil, {}, {"a"}, {""}, {"a", "b"}, {"a", "a"}, {"b", "a", "b"}, {"a", "", "a", ""}, {"\xFF", "x", "\xFF", "y", "x"}} {
		for from := 0; from+len(names) <= len(all); from += 5 {
			l := all[from : from+len(names)]
			v, e := Make(names, l...)
			if e != api.OK {
				t.Errorf("Make(%q): %d", names, e)
			}
			is(t, "Make", v, object(names, l...))
			checks(t, v, witness(object(names, l...)))
			for _, name := range names {
				gets(t, v, name, l[lastOf(names, name)])
			}
			getsNone(t, v, "none")
		}
	}
}

// P10.4: not as many names as values.
func TestMakeWrong(t *testing.T) {
	names := []string{"a", "b", "", "a", "c"}
	values := []api.Value{{}, Number(1), array(Text("x")), {Kind: 9}, Bool(true)}
	for n := range len(names) + 1 {
		for m := range len(values) + 1 {
			v, e := Make(names[:n], values[:m]...)
			if n == m {
				is(t, "Make", v, object(names[:n], values[:m]...))
			}
			if n != m && (e != api.ErrArg || told(v) != told(api.Value{})) || n == m && e != api.OK {
				t.Errorf("Make of %d names and %d values: %s, %d", n, m, brief(v), e)
			}
		}
	}
	if v, e := Make(nil, api.Value{}); e != api.ErrArg || told(v) != told(api.Value{}) {
		t.Errorf("Make of no names and a value: %s, %d", brief(v), e)
	}
}

// P10.3, P10.7: the library has the last member of a name, too.
func TestGetByLibrary(t *testing.T) {
	var all map[string]json.Number
	for _, row := range []string{"a", "aa", "ab", "aba", "abab", "bbaacab", "cab", "abcabcabc"} {
		var names, members []string
		var l []api.Value
		for i, c := range row {
			names = append(names, string(c))
			l = append(l, Number(i))
			members = append(members, `"`+string(c)+`":`+strconv.Itoa(i))
		}
		clear(all)
		if err := json.Unmarshal([]byte("{"+strings.Join(members, ",")+"}"), &all); err != nil {
			t.Fatal(err)
		}
		v, _ := Make(names, l...)
		for _, name := range []string{"a", "b", "c", "d"} {
			if n, ok := all[name]; ok {
				gets(t, v, name, api.Value{Kind: api.Number, Text: string(n)})
			} else {
				getsNone(t, v, name)
			}
		}
	}
}

// roomy is a value like this one, each list with room behind it, in which something stands.
func roomy(v api.Value) api.Value {
	v.Names = append(slices.Clone(v.Names), "room", "a")[:len(v.Names)]
	list := append(slices.Clone(v.List), api.Value{Kind: 9}, Number(5))[:len(v.List)]
	for i := range list {
		list[i] = roomy(list[i])
	}
	v.List = list
	return v
}

// P10.5: values and their lists' spare room are as they were, whichever call they are handed to; what is told does not hang on the room, and shares no memory with it.
func TestOnlyReads(t *testing.T) {
	for _, v := range every() {
		if levels(v) > 20 {
			continue // the room of so many lists is told at great length
		}
		a, b := roomy(v), roomy(v)
		was := toldWithRoom(a)
		checks(t, a, witness(v))
		if Depth(a) != levels(v) || !Equal(a, b) || !Equal(a, v) {
			t.Errorf("%s with room is another one", brief(v))
		}
		is(t, "Copy", Copy(a), v)
		l, list := roomyList(a, b)
		is(t, "List", l, array(v, v))
		names := []string{"a", "b", "c"}
		o, e := Make(names[:2], list...)
		if e != api.OK {
			t.Errorf("Make: %d", e)
		}
		is(t, "Make", o, object([]string{"a", "b"}, v, v))
		one, _ := Get(a, "a")
		two, _ := Get(o, "a")
		own(t, "answers of "+brief(v), a, b, Copy(a), l, o, one, two)
		for _, answer := range []api.Value{Copy(a), l, o, one, two} {
			spoil(answer)
		}
		if toldWithRoom(a) != was || toldWithRoom(b) != was || strings.Join(names, "") != "abc" || toldWithRoom(array(list[:3]...)) != toldWithRoom(array(a, b, Number(7))) {
			t.Errorf("%s became %s", was, toldWithRoom(a))
		}
	}
}

// roomyList is an array of both, and the list with room that it was made of.
func roomyList(a, b api.Value) (api.Value, []api.Value) {
	list := append(make([]api.Value, 0, 3), a, b, Number(7))[:2]
	return List(list...), list
}

// P10.5, P10.7: what was made stays as it is, whatever becomes of what it was made of.
func TestKeepsNothing(t *testing.T) {
	for range 2 {
		inner := array(Number(1), array(Text("x")))
		list, names := []api.Value{inner, inner}, []string{"a", "b"}
		want := []api.Value{array(Number(1), array(Text("x"))), array(Number(1), array(Text("x")))}
		l := List(list...)
		o, e := Make(names, list...)
		got, ok := Get(o, "b")
		if e != api.OK || !ok {
			t.Fatalf("Make, Get: %d, %v", e, ok)
		}
		own(t, "List, Make, Get", l, o, got)
		spoil(api.Value{Names: names, List: list})
		is(t, "List", l, array(want...))
		is(t, "Make", o, object([]string{"a", "b"}, want...))
		spoil(o)
		is(t, "Get", got, want[1])
		l.List[0].List[1].List[0].Text = "y"
		is(t, "List of one twice", l, array(array(Number(1), array(Text("y"))), want[1]))
	}
}

// P10.1 to P10.4, P10.6: long lists, and lists that hold one another up to what the document bounds.
func TestLong(t *testing.T) {
	const size = 100000
	list, names := make([]api.Value, size), make([]string, size)
	for i := range list {
		list[i] = array(Number(i))
		names[i] = strconv.Itoa(i % 1000)
	}
	v, e := Make(names, list...)
	if e != api.OK || Check(v) != api.OK || Depth(v) != 3 || !Equal(v, Copy(v)) || !Equal(List(list...), List(v.List...)) {
		t.Errorf("Make of %d members: %d", size, e)
	}
	gets(t, v, "999", array(Number(size-1)))
	gets(t, v, "0", array(Number(size-1000)))
	getsNone(t, v, "1000")
	w := Copy(v)
	w.List[size-1].List[0].Text = "x"
	if Equal(v, w) || Equal(w, v) {
		t.Error("the last value is another one, and they are alike")
	}
	w.List[size-1].List[0].Is = true
	checks(t, w, api.ErrArg)
	w = Copy(v)
	w.Names[size-1] = "x"
	if Equal(v, w) || Equal(w, v) {
		t.Error("the last name is another one, and they are alike")
	}
	gets(t, w, "999", array(Number(size-1001)))
	deep := nest(Number(1), 999)
	other := nest(Number(2), 999)
	if !Equal(deep, Copy(deep)) || Equal(deep, other) || Depth(List(deep)) != 1001 {
		t.Error("999 lists that hold one another")
	}
	checks(t, deep, api.ErrDepth)
}
