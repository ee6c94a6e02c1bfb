package frame

import (
	"bytes"
	"fmt"
	"iter"
	"math/rand"
	"slices"
	"strings"
	"testing"

	"colophon/api"
	"colophon/head"
)

// witness is what is taken of bytes, by the chapter's words, with other means: a byte at a time, each of them belonging to a header or to a body.
func witness(b []byte) (bodies []string, left int, e api.Errno) {
	var header, body []byte
	missing := -1
	for _, c := range b {
		if missing < 0 {
			header = append(header, c)
			length, _, e := head.Parse(header)
			if e == api.ErrTrunc {
				continue
			}
			if e != api.OK {
				return bodies, 0, e
			}
			missing = length
		} else {
			body = append(body, c)
			missing--
		}
		if missing == 0 {
			bodies = append(bodies, string(body))
			header, body, missing = nil, nil, -1
		}
	}
	return bodies, len(header) + len(body), api.OK
}

// texts are bodies as strings, which compare.
func texts(bodies [][]byte) []string {
	var l []string
	for _, b := range bodies {
		l = append(l, string(b))
	}
	return l
}

// ranged is what is ranged over.
func ranged(s iter.Seq[[]byte]) []string {
	return texts(slices.Collect(s))
}

// writes holds a Write, and how the reader stands behind it, to an answer.
func writes(t *testing.T, r *Reader, b string, bodies []string, e api.Errno, left int, isClosed bool) {
	t.Helper()
	got, f := r.Write([]byte(b))
	if !slices.Equal(texts(got), bodies) || f != e {
		t.Errorf("Write(%q): %q, %d; want %q, %d", b, got, f, bodies, e)
	}
	if r.Left() != left || r.Closed() != isClosed {
		t.Errorf("behind Write(%q): Left %d, Closed %t; want %d, %t", b, r.Left(), r.Closed(), left, isClosed)
	}
}

// takes holds a new reader that is handed pieces to what the witness tells of all of them.
func takes(t *testing.T, pieces ...[]byte) {
	t.Helper()
	bodies, left, e := witness(bytes.Join(pieces, nil))
	r := New()
	var got []string
	last := api.OK
	for _, p := range pieces {
		l, f := r.Write(p)
		got = append(got, texts(l)...)
		if last != api.OK && (f != api.ErrFatal || len(l) != 0) {
			t.Errorf("%q: Write of a closed one: %q, %d", pieces, l, f)
		}
		if last == api.OK {
			last = f
		}
		if r.Closed() != (last != api.OK) {
			t.Errorf("%q: Closed %t behind %d", pieces, r.Closed(), last)
		}
	}
	if !slices.Equal(got, bodies) || last != e || r.Left() != left {
		t.Errorf("%q: %q, %d, Left %d; want %q, %d, %d", pieces, got, last, r.Left(), bodies, e, left)
	}
}

// cutIn are pieces of so many bytes; the last one may have fewer.
func cutIn(b []byte, size int) [][]byte {
	return slices.Collect(slices.Chunk(b, size))
}

// framed is bodies, each with its header, one behind the other.
func framed(t *testing.T, bodies ...string) []byte {
	t.Helper()
	var b []byte
	for _, body := range bodies {
		f, e := Frame([]byte(body))
		if e != api.OK {
			t.Fatalf("Frame of %d bytes: %d", len(body), e)
		}
		b = append(b, f...)
	}
	return b
}

// headerOf is a header of just so many bytes that tells a length.
func headerOf(size, length int) string {
	last := fmt.Sprintf("\r\nContent-Length: %d\r\n\r\n", length)
	return "X:" + strings.Repeat("y", size-len("X:")-len(last)) + last
}

// rows are all rows of up to so many of these parts.
func rows(of []string, most int) []string {
	l := []string{""}
	last := l
	for range most {
		var next []string
		for _, s := range last {
			for _, part := range of {
				next = append(next, s+part)
			}
		}
		l = append(l, next...)
		last = next
	}
	return l
}

// The chapter's examples, one behind the other.
func TestExamples(t *testing.T) {
	r := New()
	writes(t, r, "Content-Length: 2\r\n\r\n{}Content-Le", []string{"{}"}, api.OK, 10, false)
	writes(t, r, "ngth: 1\r\n\r\n", nil, api.OK, 21, false)
	writes(t, r, "7x", []string{"7"}, api.OK, 1, false)
	writes(t, r, "\r\n", nil, api.OK, 3, false)
	writes(t, r, "", nil, api.OK, 3, false)
	writes(t, r, "\r\n\r\n", nil, api.ErrHead, 0, true)
	writes(t, r, "", nil, api.ErrFatal, 0, true)
	writes(t, r, "Content-Length: 2\r\n\r\n{}", nil, api.ErrFatal, 0, true)
}

// P7.1: a new reader has no bytes, and shares nothing with another one.
func TestNew(t *testing.T) {
	a, b := New(), New()
	if a == nil || b == nil || a == b {
		t.Fatal("New: no two readers")
	}
	for _, r := range []*Reader{a, b} {
		if r.Left() != 0 || r.Closed() {
			t.Errorf("New: Left %d, Closed %t", r.Left(), r.Closed())
		}
	}
	writes(t, a, "Content-Le", nil, api.OK, 10, false)
	writes(t, b, "\r\n", nil, api.ErrHead, 0, true)
	writes(t, a, "ngth: 1\r\n\r\nx", []string{"x"}, api.OK, 0, false)
	writes(t, New(), "", nil, api.OK, 0, false)
}

// P7.1: of a reader that is none ErrNil, 0, false are told, and it does not become one.
func TestNone(t *testing.T) {
	for _, r := range []*Reader{nil, {}, new(Reader)} {
		for _, b := range []string{"", "x", "Content-Length: 1\r\n\r\nx", "\r\n", strings.Repeat("x", 600), ""} {
			writes(t, r, b, nil, api.ErrNil, 0, false)
		}
	}
}

// P7.2: frames are taken as soon as they are there, in order, and what is no frame yet is left.
func TestWrite(t *testing.T) {
	r := New()
	writes(t, r, "", nil, api.OK, 0, false)
	writes(t, r, "Content-Length: 0\r\n\r", nil, api.OK, 20, false)
	writes(t, r, "\n", []string{""}, api.OK, 0, false)
	writes(t, r, "Content-Length: 3\r\n\r\n", nil, api.OK, 21, false)
	writes(t, r, "ab", nil, api.OK, 23, false)
	writes(t, r, "cX: 1\r\ncontent-length:002\r\n\r\nde", []string{"abc", "de"}, api.OK, 0, false)
	writes(t, r, "Content-Length: 1\r\n\r\nfContent-Length: 0\r\n\r\nContent-Length: 2\r\n\r\nghC", []string{"f", "", "gh"}, api.OK, 1, false)
	writes(t, r, "ontent-Length: 1\r\n\r\n\r", []string{"\r"}, api.OK, 0, false)
	// What stands in a body is not read, be it a header that may not be.
	writes(t, r, "Content-Length: 4\r\n\r\n\r\n\r\n", []string{"\r\n\r\n"}, api.OK, 0, false)
}

// P7.2: where bytes are broken, the bodies ahead are told beside the error, and nothing any more.
func TestBroken(t *testing.T) {
	const good = "Content-Length: 2\r\n\r\n{}"
	for _, c := range []struct {
		bad string
		e   api.Errno
	}{
		{"\r\n", api.ErrHead},
		{"X\r\n\r\n", api.ErrHead},
		{"X: 1\r\n\r\n", api.ErrHead},
		{"Content-Length: -1\r\n\r\n", api.ErrHead},
		{"Content-Length: 1\r\nContent-Length: 2\r\n\r\n", api.ErrHead},
		{"Content-Length: 65537\r\n\r\n", api.ErrLimit},
		{"Content-Length: 99999999999999999999\r\n\r\n", api.ErrLimit},
		{strings.Repeat("x", 512), api.ErrLimit},
		{headerOf(513, 1), api.ErrLimit},
	} {
		for n := range 3 {
			for _, behind := range []string{"", "x", good} {
				bodies := slices.Repeat([]string{"{}"}, n)
				r := New()
				writes(t, r, strings.Repeat(good, n)+c.bad+behind, bodies, c.e, 0, true)
				for _, b := range []string{"", "x", good} {
					writes(t, r, b, nil, api.ErrFatal, 0, true)
				}
				r = New()
				writes(t, r, strings.Repeat(good, n)+c.bad[:1], bodies, api.OK, 1, false)
				writes(t, r, c.bad[1:]+behind, nil, c.e, 0, true)
				if got := ranged(All([]byte(strings.Repeat(good, n) + c.bad + good))); !slices.Equal(got, bodies) {
					t.Errorf("All ahead of %q: %q; want %q", c.bad, got, bodies)
				}
			}
		}
	}
}

// P7.2: the edges of a header's room: 511 bytes without an end may go on, 512 may not; a header of 512 bytes may be.
func TestHeaderRoom(t *testing.T) {
	r := New()
	writes(t, r, strings.Repeat("x", 511), nil, api.OK, 511, false)
	writes(t, r, "", nil, api.OK, 511, false)
	writes(t, r, "x", nil, api.ErrLimit, 0, true)
	r = New()
	writes(t, r, headerOf(512, 1)+"y", []string{"y"}, api.OK, 0, false)
	writes(t, r, headerOf(512, 1)[:511], nil, api.OK, 511, false)
	writes(t, r, "\n", nil, api.OK, 512, false)
	writes(t, r, "y", []string{"y"}, api.OK, 0, false)
}

// P7.3: All's bodies, up to where no frame stands.
func TestAll(t *testing.T) {
	for _, c := range []struct {
		b      string
		bodies []string
	}{
		{"", nil},
		{"x", nil},
		{"\r\n", nil},
		{"Content-Length: 2\r\n\r\n{", nil},
		{"Content-Length: 2\r\n\r\n{}", []string{"{}"}},
		{"Content-Length: 0\r\n\r\n", []string{""}},
		{"Content-Length: 0\r\n\r\nContent-Length: 1\r\n\r\naContent-Length: 1\r\n\r\n", []string{"", "a"}},
		{"Content-Length: 1\r\n\r\nabContent-Length: 1\r\n\r\nc", []string{"a"}},
	} {
		all := All([]byte(c.b))
		for range 2 {
			if got := ranged(all); !slices.Equal(got, c.bodies) {
				t.Errorf("All(%q): %q; want %q", c.b, got, c.bodies)
			}
		}
	}
	if got := ranged(All(nil)); len(got) != 0 {
		t.Errorf("All(nil): %q", got)
	}
}

// P7.3: when nobody wants more, none comes; a new ranging begins with the first one.
func TestAllStops(t *testing.T) {
	want := []string{"a", "", "bc", "d"}
	all := All(framed(t, want...))
	for most := 1; most <= len(want); most++ {
		var got []string
		all(func(body []byte) bool {
			got = append(got, string(body))
			return len(got) < most
		})
		if !slices.Equal(got, want[:most]) {
			t.Errorf("%d wanted: %q", most, got)
		}
	}
}

// P7.3: a frame is a header and the body; the body has 65536 bytes at most.
func TestFrame(t *testing.T) {
	for _, c := range []struct {
		body []byte
		want string
	}{
		{nil, "Content-Length: 0\r\n\r\n"},
		{[]byte{}, "Content-Length: 0\r\n\r\n"},
		{[]byte("{}"), "Content-Length: 2\r\n\r\n{}"},
		{[]byte("\r\n\r\n\xff\x00"), "Content-Length: 6\r\n\r\n\r\n\r\n\xff\x00"},
		{bytes.Repeat([]byte("x"), 65536), "Content-Length: 65536\r\n\r\n" + strings.Repeat("x", 65536)},
	} {
		if got, e := Frame(c.body); string(got) != c.want || e != api.OK {
			t.Errorf("Frame(%q): %q, %d", c.body, got, e)
		}
	}
	for _, n := range []int{65537, 65538, 1 << 20} {
		if got, e := Frame(make([]byte, n)); len(got) != 0 || e != api.ErrLimit {
			t.Errorf("Frame of %d bytes: %d bytes, %d", n, len(got), e)
		}
	}
}

// roomy is bytes with spare room, and all of it.
func roomy(b []byte) (some, all []byte) {
	all = append(slices.Clone(b), bytes.Repeat([]byte{'#'}, 100)...)
	return all[:len(b):len(all)], all
}

// P7.4: what is handed in is only read, its spare room too.
func TestOnlyReads(t *testing.T) {
	whole := framed(t, "abc", "", "de")
	for n := range len(whole) + 1 {
		b, all := roomy(whole[:n])
		was := slices.Clone(all)
		r := New()
		r.Write(b)
		r.Write([]byte("###"))
		for body := range All(b) {
			fill(body)
		}
		Frame(b)
		if !bytes.Equal(all, was) {
			t.Errorf("%q: changed to %q", was, all)
		}
	}
}

// fill writes over bytes and their spare room.
func fill(b []byte) {
	b = b[:cap(b)]
	for i := range b {
		b[i] = '!'
	}
}

// P7.4: what was handed to a reader is not kept: it may be written over.
func TestKeepsNothing(t *testing.T) {
	want := []string{"abc", "", "de", "f"}
	whole := framed(t, want...)
	for size := 1; size <= len(whole); size++ {
		r := New()
		var got []string
		for _, p := range cutIn(whole, size) {
			mine, all := roomy(p)
			l, e := r.Write(mine)
			fill(all)
			if e != api.OK {
				t.Fatalf("pieces of %d: %d", size, e)
			}
			got = append(got, texts(l)...)
		}
		if !slices.Equal(got, want) || r.Left() != 0 {
			t.Errorf("pieces of %d: %q, Left %d", size, got, r.Left())
		}
	}
}

// P7.4: bodies are new memory: writing over one changes neither another one nor what the reader has.
func TestNewMemory(t *testing.T) {
	want := []string{"abc", "", "de", "f"}
	whole := framed(t, want...)
	for size := 1; size <= len(whole); size++ {
		r := New()
		var got []string
		for _, p := range cutIn(whole, size) {
			l, _ := r.Write(p)
			for _, body := range l {
				got = append(got, string(body))
				fill(body)
			}
		}
		if !slices.Equal(got, want) || r.Left() != 0 {
			t.Errorf("pieces of %d: %q, Left %d", size, got, r.Left())
		}
	}
	l := slices.Collect(All(whole))
	for i, body := range l {
		if string(body) != want[i] {
			t.Errorf("All: body %d: %q", i, body)
		}
		fill(body)
	}
	if got := ranged(All(whole)); !slices.Equal(got, want) {
		t.Errorf("All behind a change of its bodies: %q", got)
	}
	body := []byte("abc")
	a, _ := Frame(body)
	b, _ := Frame(body)
	fill(a)
	if string(b) != "Content-Length: 3\r\n\r\nabc" || string(body) != "abc" {
		t.Errorf("Frame: %q, %q", b, body)
	}
}

// P7.4, P7.7: frames that were taken are not kept with what is left, nor is anything when the reader is closed.
func TestLetsGo(t *testing.T) {
	r := New()
	r.Write(append(framed(t, slices.Repeat([]string{strings.Repeat("x", 65536)}, 16)...), 'C'))
	if r.Left() != 1 || cap(r.left) > 1<<10 {
		t.Errorf("Left %d in room for %d", r.Left(), cap(r.left))
	}
	r.Write([]byte("\r\n\r\n"))
	if !r.Closed() || cap(r.left) != 0 {
		t.Errorf("Closed %t with room for %d", r.Closed(), cap(r.left))
	}
}

// P7.2, P7.3, P7.5: all rows of a few parts, in all pairs of pieces, and byte by byte, are taken as the witness takes them, and All's bodies are the same.
func TestRows(t *testing.T) {
	parts := []string{"Content-Length: 0\r\n\r\n", "Content-Length: 3\r\n\r\n", "Content-Length:1\r\n", "\r\n", "\r", "\n", "x", "X:y\r\n"}
	for _, s := range rows(parts, 4) {
		b := []byte(s)
		bodies, _, _ := witness(b)
		if got := ranged(All(b)); !slices.Equal(got, bodies) {
			t.Errorf("All(%q): %q; want %q", s, got, bodies)
		}
		takes(t, b)
		takes(t, cutIn(b, 1)...)
		for at := range len(b) {
			takes(t, b[:at], b[at:])
		}
	}
}

// P7.5: all ways to cut a short text in three, with empty pieces among them, one that goes on well and one that breaks.
func TestThreePieces(t *testing.T) {
	for _, s := range []string{
		"Content-Length: 2\r\n\r\n{}Content-Length: 0\r\n\r\nX:\r\nContent-Length: 12\r\n\r\nContent-",
		"Content-Length: 2\r\n\r\n{}Content-Length: 1\r\n\r\n7x\r\n\r\nContent-Length: 2\r\n\r\n{}",
	} {
		b := []byte(s)
		for to := range len(b) + 1 {
			for from := range to + 1 {
				takes(t, b[:from], b[from:to], nil, b[to:], []byte{})
			}
		}
	}
}

// P7.5: a byte of a stream that is another one, in pieces of many sizes.
func TestMutations(t *testing.T) {
	whole := framed(t, "{}", "", strings.Repeat("z", 30))
	for at := range whole {
		for _, c := range []byte("\r\n:0149C -\x00\xff") {
			b := slices.Clone(whole)
			b[at] = c
			bodies, _, _ := witness(b)
			if got := ranged(All(b)); !slices.Equal(got, bodies) {
				t.Errorf("All(%q): %q; want %q", b, got, bodies)
			}
			for _, size := range []int{1, 2, 7, 20, 45, len(b)} {
				takes(t, cutIn(b, size)...)
			}
		}
	}
}

// P7.6: bodies that were framed come as they were, whatever they are, in whichever pieces; nothing is left.
func TestFramedBodies(t *testing.T) {
	inner := string(framed(t, "x", ""))
	bodies := []string{"", "{}", inner, "\r\n", "\r\n\r\n", "Content-Length: 7\r\n\r\n", "\x00\xff\x80", strings.Repeat("\r\n", 400), strings.Repeat("a", 511), strings.Repeat("b", 65536), ""}
	b := framed(t, bodies...)
	for _, size := range []int{1, 2, 3, 19, 20, 21, 22, 511, 512, 513, 4096, 65536, 66048, len(b)} {
		r := New()
		var got []string
		for _, p := range cutIn(b, size) {
			l, e := r.Write(p)
			if e != api.OK {
				t.Fatalf("pieces of %d: %d", size, e)
			}
			got = append(got, texts(l)...)
		}
		if !slices.Equal(got, bodies) || r.Left() != 0 || r.Closed() {
			t.Errorf("pieces of %d: %d bodies of %d, Left %d, Closed %t", size, len(got), len(bodies), r.Left(), r.Closed())
		}
	}
	if got := ranged(All(b)); !slices.Equal(got, bodies) {
		t.Errorf("All: %d bodies of %d", len(got), len(bodies))
	}
	for n := range 256 {
		body := string([]byte{byte(n)})
		if got := ranged(All(framed(t, body))); !slices.Equal(got, []string{body}) {
			t.Errorf("the byte %d: %q", n, got)
		}
	}
}

// P7.7: the greatest frame but for its last byte is the most that a reader has.
func TestMostLeft(t *testing.T) {
	b := headerOf(512, 65536) + strings.Repeat("x", 65536)
	r := New()
	writes(t, r, b[:len(b)-1], nil, api.OK, 512+65536-1, false)
	writes(t, r, "x"+b[:len(b)-1], []string{strings.Repeat("x", 65536)}, api.OK, 512+65536-1, false)
	writes(t, r, "xC", []string{strings.Repeat("x", 65536)}, api.OK, 1, false)
}

// P7.7: whatever comes, what is left behind an OK is within the bound, and less than one frame.
func TestBound(t *testing.T) {
	random := rand.New(rand.NewSource(7))
	parts := []string{"Content-Length: 65536\r\n\r\n", "Content-Length: 9\r\n\r\n", "Content-", "Length: 40\r\n\r\n", "\r\n", "xyz", strings.Repeat("x", 30000), headerOf(512, 3), strings.Repeat("y", 511)}
	for range 2000 {
		r := New()
		var came []byte
		taken := 0
		for range 12 {
			p := parts[random.Intn(len(parts))]
			came = append(came, p...)
			l, e := r.Write([]byte(p))
			taken += len(l)
			if e != api.OK {
				break
			}
			left := came[len(came)-r.Left():]
			if r.Left() > 512+65536 || len(ranged(All(left))) != 0 || taken != len(ranged(All(came))) {
				t.Fatalf("Left %d behind %d bodies", r.Left(), taken)
			}
		}
	}
}
