package field_test

import (
	"bytes"
	"cmp"
	"math"
	"strings"
	"testing"

	"ambry/api"
	"ambry/field"
)

// width is a width's two calls, and how many bytes it has.
type width struct {
	name  string
	bytes int
	put   func(b []byte, n int) []byte
	read  func(r *field.Reader) int
}

func widths() []width {
	return []width{
		{"8", 1, field.Put8, (*field.Reader).U8},
		{"16", 2, field.Put16, (*field.Reader).U16},
		{"32", 4, field.Put32, (*field.Reader).U32},
		{"64", 8, field.Put64, (*field.Reader).I64},
	}
}

// fits tells the number that stands in a field of n, reckoned without shifts of single bytes.
func (w width) fits(n int) int {
	if w.bytes == 8 {
		return n
	}
	return n & (1<<(8*w.bytes) - 1)
}

// numbers are those about each width's edges, on both sides of 0.
func numbers() []int {
	l := []int{math.MinInt, math.MinInt + 1, math.MaxInt - 1, math.MaxInt, 0x0123456789abcdef, -0x0123456789abcdef}
	for _, edge := range []int{0, 1 << 7, 1 << 8, 258, 1 << 15, 1 << 16, 1 << 31, 1 << 32, 1 << 60} {
		for near := -2; near <= 2; near++ {
			l = append(l, edge+near, -edge+near)
		}
	}
	return l
}

// wantRead looks at where a reader stands behind a call, and why.
func wantRead(t *testing.T, what string, r *field.Reader, at int, err api.Errno) {
	t.Helper()
	if r.At() != at || r.Err() != err {
		t.Errorf("%s: At %d, Err %d; want %d, %d", what, r.At(), r.Err(), at, err)
	}
}

func TestP1_1PutNumbers(t *testing.T) {
	cases := []struct {
		name string
		got  []byte
		want string
	}{
		{"Put8(0)", field.Put8(nil, 0), "\x00"},
		{"Put8(255)", field.Put8(nil, 255), "\xff"},
		{"Put8(256)", field.Put8(nil, 256), "\x00"},
		{"Put8(513)", field.Put8(nil, 513), "\x01"},
		{"Put8(-1)", field.Put8(nil, -1), "\xff"},
		{"Put8(-257)", field.Put8(nil, -257), "\xff"},
		{"Put8(least)", field.Put8(nil, math.MinInt), "\x00"},
		{"Put16(258)", field.Put16(nil, 258), "\x01\x02"},
		{"Put16(65535)", field.Put16(nil, 65535), "\xff\xff"},
		{"Put16(65536)", field.Put16(nil, 65536), "\x00\x00"},
		{"Put16(-2)", field.Put16(nil, -2), "\xff\xfe"},
		{"Put16(-65537)", field.Put16(nil, -65537), "\xff\xff"},
		{"Put32(01020304)", field.Put32(nil, 0x01020304), "\x01\x02\x03\x04"},
		{"Put32(2^32-1)", field.Put32(nil, 1<<32-1), "\xff\xff\xff\xff"},
		{"Put32(2^32)", field.Put32(nil, 1<<32), "\x00\x00\x00\x00"},
		{"Put32(-3)", field.Put32(nil, -3), "\xff\xff\xff\xfd"},
		{"Put32(greatest)", field.Put32(nil, math.MaxInt), "\xff\xff\xff\xff"},
		{"Put64(0102030405060708)", field.Put64(nil, 0x0102030405060708), "\x01\x02\x03\x04\x05\x06\x07\x08"},
		{"Put64(-2)", field.Put64(nil, -2), "\xff\xff\xff\xff\xff\xff\xff\xfe"},
		{"Put64(greatest)", field.Put64(nil, math.MaxInt), "\x7f\xff\xff\xff\xff\xff\xff\xff"},
		{"Put64(least)", field.Put64(nil, math.MinInt), "\x80\x00\x00\x00\x00\x00\x00\x00"},
	}
	for _, c := range cases {
		if string(c.got) != c.want {
			t.Errorf("%s = %x, want %x", c.name, c.got, c.want)
		}
	}
}

func TestP1_1PutText(t *testing.T) {
	long := strings.Repeat("x", 258)
	cases := []struct {
		text, want string
	}{
		{"", "\x00\x00\x00\x00"},
		{"ab", "\x00\x00\x00\x02ab"},
		{"\x00\xff\x80", "\x00\x00\x00\x03\x00\xff\x80"},
		{"é", "\x00\x00\x00\x02\xc3\xa9"},
		{long, "\x00\x00\x01\x02" + long},
	}
	for _, c := range cases {
		if got := field.PutText(nil, c.text); string(got) != c.want {
			t.Errorf("PutText(%q) = %x, want %x", c.text, got, c.want)
		}
	}
}

func TestP1_1Behind(t *testing.T) {
	for _, ahead := range []string{"", "a", "\x00\xff", strings.Repeat("long", 99)} {
		for _, w := range widths() {
			want := ahead + string(w.put(nil, 0x0102030405060708))
			if got := w.put([]byte(ahead), 0x0102030405060708); string(got) != want {
				t.Errorf("width %s behind %q = %x, want %x", w.name, ahead, got, want)
			}
			if got := w.put([]byte{}, -2); !bytes.Equal(got, w.put(nil, -2)) {
				t.Errorf("width %s behind nothing = %x", w.name, got)
			}
		}
		if got := field.PutText([]byte(ahead), "ab"); string(got) != ahead+"\x00\x00\x00\x02ab" {
			t.Errorf("text behind %q = %x", ahead, got)
		}
	}
}

// puts are all calls that put, each with something put.
func puts() map[string]func(b []byte, n int) []byte {
	l := map[string]func(b []byte, n int) []byte{
		"text": func(b []byte, n int) []byte { return field.PutText(b, string(rune('a'+n))) },
	}
	for _, w := range widths() {
		l[w.name] = w.put
	}
	return l
}

func TestP1_1NewMemory(t *testing.T) {
	for name, put := range puts() {
		whole := []byte("abcdefghijklmnopqrstuvwxyz")
		given := whole[:3]
		one := put(given, 1)
		kept := string(one)
		two := put(given, 2)
		if string(whole) != "abcdefghijklmnopqrstuvwxyz" {
			t.Errorf("%s: wrote what was handed in, or behind its end: %q", name, whole)
		}
		if string(one) != kept {
			t.Errorf("%s: two answers share memory", name)
		}
		two[0], one[1] = '!', '!'
		if string(given) != "abc" || two[1] != 'b' || one[0] != 'a' {
			t.Errorf("%s: an answer shares memory with an argument, or another answer", name)
		}
	}
}

func TestP1_2Numbers(t *testing.T) {
	b := []byte("\x01\x02\xff\xfe\x01\x02\x03\x04\xff\xff\xff\xff\x80\x00\x00\x00\x00\x00\x00\x01\x7f\xff\xff\xff\xff\xff\xff\xff\xff\x00\x09")
	r := field.NewReader(b)
	wantRead(t, "new", r, 0, api.OK)
	steps := []struct {
		name string
		read func() int
		want int
		at   int
	}{
		{"U8", r.U8, 1, 1},
		{"U8", r.U8, 2, 2},
		{"U16", r.U16, 0xfffe, 4},
		{"U32", r.U32, 0x01020304, 8},
		{"U32", r.U32, 1<<32 - 1, 12},
		{"I64", r.I64, math.MinInt + 1, 20},
		{"I64", r.I64, math.MaxInt, 28},
		{"U8", r.U8, 255, 29},
		{"U16", r.U16, 9, 31},
	}
	for _, s := range steps {
		if got := s.read(); got != s.want {
			t.Errorf("%s ahead of %d = %d, want %d", s.name, s.at, got, s.want)
		}
		wantRead(t, s.name, r, s.at, api.OK)
	}
	if r.End() != api.OK {
		t.Errorf("End = %d", r.End())
	}
}

func TestP1_2TooFewBytes(t *testing.T) {
	for _, w := range widths() {
		for have := range w.bytes {
			for _, ahead := range []int{0, 3} {
				r := field.NewReader(make([]byte, ahead+have))
				for range ahead {
					r.U8()
				}
				if got := w.read(r); got != 0 {
					t.Errorf("width %s of %d bytes = %d", w.name, have, got)
				}
				wantRead(t, "width "+w.name, r, ahead, api.ErrShort)
			}
		}
		r := field.NewReader(bytes.Repeat([]byte{255}, w.bytes))
		if got := w.read(r); got != w.fits(-1) {
			t.Errorf("width %s of just its bytes = %d", w.name, got)
		}
		wantRead(t, "width "+w.name, r, w.bytes, api.OK)
	}
}

func TestP1_2ReaderKeepsItsBytes(t *testing.T) {
	b := []byte("\x07\x00\x00\x00\x02ab")
	r := field.NewReader(b)
	clear(b)
	if n, s := r.U8(), r.Text(9); n != 7 || s != "ab" {
		t.Errorf("read %d, %q behind a change of what was handed in", n, s)
	}
	given := []byte("\x01\x02")
	field.NewReader(given).U16()
	if string(given) != "\x01\x02" {
		t.Errorf("reading changed what was handed in: %x", given)
	}
}

func TestP1_2TwoReaders(t *testing.T) {
	b := []byte("\x01\x02")
	one, two := field.NewReader(b), field.NewReader(b)
	if one.U8() != 1 || two.U16() != 258 || one.U8() != 2 {
		t.Error("two readers of the same bytes are not by themselves")
	}
}

func TestP1_3Text(t *testing.T) {
	most := strings.Repeat("x", api.MaxText)
	cases := []struct {
		name string
		b    string
		most int
		want string
		at   int
		err  api.Errno
	}{
		{"no bytes", "", 9, "", 0, api.ErrShort},
		{"3 bytes", "\x00\x00\x00", 9, "", 0, api.ErrShort},
		{"3 bytes, great", "\xff\xff\xff", 0, "", 0, api.ErrShort},
		{"empty", "\x00\x00\x00\x00", 9, "", 4, api.OK},
		{"empty, most 0", "\x00\x00\x00\x00", 0, "", 4, api.OK},
		{"empty, most below 0", "\x00\x00\x00\x00", -1, "", 4, api.OK},
		{"empty, least most", "\x00\x00\x00\x00", math.MinInt, "", 4, api.OK},
		{"one byte, most 0", "\x00\x00\x00\x01a", 0, "", 0, api.ErrBig},
		{"one byte, most below 0", "\x00\x00\x00\x01a", -5, "", 0, api.ErrBig},
		{"as many as most", "\x00\x00\x00\x02ab", 2, "ab", 6, api.OK},
		{"one above most", "\x00\x00\x00\x02ab", 1, "", 0, api.ErrBig},
		{"far below most", "\x00\x00\x00\x02ab", math.MaxInt, "ab", 6, api.OK},
		{"bytes behind", "\x00\x00\x00\x01abc", 9, "a", 5, api.OK},
		{"any bytes", "\x00\x00\x00\x04\x00\xff\xc3\x0a", 9, "\x00\xff\xc3\x0a", 8, api.OK},
		{"one too few", "\x00\x00\x00\x02a", 9, "", 0, api.ErrShort},
		{"none behind", "\x00\x00\x00\x02", 2, "", 0, api.ErrShort},
		{"too long, and too few", "\x00\x00\x00\x02a", 1, "", 0, api.ErrBig},
		{"greatest length", "\xff\xff\xff\xffabc", math.MaxInt, "", 0, api.ErrShort},
		{"greatest length above most", "\xff\xff\xff\xffabc", 1<<32 - 2, "", 0, api.ErrBig},
		{"length's highest byte", "\x01\x00\x00\x00", 9, "", 0, api.ErrBig},
		{"MaxText", "\x00\x10\x00\x00" + most, api.MaxText, most, 4 + api.MaxText, api.OK},
	}
	for _, c := range cases {
		r := field.NewReader([]byte(c.b))
		if got := r.Text(c.most); got != c.want {
			t.Errorf("%s: %d bytes, want %d", c.name, len(got), len(c.want))
		}
		wantRead(t, c.name, r, c.at, c.err)
		behind := field.NewReader([]byte("\x01\x02" + c.b))
		behind.U16()
		if got := behind.Text(c.most); got != c.want {
			t.Errorf("%s, behind two bytes: %d bytes, want %d", c.name, len(got), len(c.want))
		}
		wantRead(t, c.name+", behind two bytes", behind, 2+c.at, c.err)
	}
}

// readAll asks each call that reads, and tells whether each answered nothing.
func readAll(r *field.Reader) bool {
	nothing := r.Text(9) == "" && r.Text(-1) == ""
	for _, w := range widths() {
		nothing = nothing && w.read(r) == 0
	}
	return nothing
}

func TestP1_4NothingReadBehindAnError(t *testing.T) {
	cases := []struct {
		name string
		b    string
		fail func(r *field.Reader)
		err  api.Errno
	}{
		{"I64 of too few", "\x00\x00\x00\x01\x01\x02\x03", func(r *field.Reader) { r.I64() }, api.ErrShort},
		{"Text too long", "\x00\x00\x00\x01\x01\x02\x03\x04\x05", func(r *field.Reader) { r.Text(0) }, api.ErrBig},
		{"Text too short", "\x00\x00\x00\x09\x01\x02\x03\x04\x05", func(r *field.Reader) { r.Text(9) }, api.ErrShort},
	}
	for _, c := range cases {
		for _, ahead := range []string{"", "\x05\x06"} {
			r := field.NewReader([]byte(ahead + c.b))
			for range len(ahead) {
				r.U8()
			}
			c.fail(r)
			wantRead(t, c.name, r, len(ahead), c.err)
			if !readAll(r) {
				t.Errorf("%s: something is read behind the error", c.name)
			}
			wantRead(t, c.name+", asked again", r, len(ahead), c.err)
			if r.End() != c.err {
				t.Errorf("%s: End = %d, want %d", c.name, r.End(), c.err)
			}
		}
	}
}

func TestP1_4FirstErrorStays(t *testing.T) {
	r := field.NewReader([]byte("\x00\x00\x00\x01a"))
	r.I64()
	r.Text(0)
	wantRead(t, "ErrShort, then what would be ErrBig", r, 0, api.ErrShort)
	r = field.NewReader([]byte("\x00\x00\x00\x01a"))
	r.Text(0)
	r.I64()
	wantRead(t, "ErrBig, then what would be ErrShort", r, 0, api.ErrBig)
}

func TestP1_4End(t *testing.T) {
	r := field.NewReader([]byte("\x01\x02\x03"))
	for left := 3; left > 0; left-- {
		if r.End() != api.ErrBig {
			t.Errorf("End with %d bytes left = %d", left, r.End())
		}
		wantRead(t, "End", r, 3-left, api.OK)
		if r.U8() != 4-left {
			t.Error("End kept the next byte from being read")
		}
	}
	if r.End() != api.OK || r.End() != api.OK {
		t.Errorf("End behind all = %d", r.End())
	}
	r.U8()
	if r.End() != api.ErrShort {
		t.Errorf("End behind an error, with nothing left = %d", r.End())
	}
	for _, empty := range [][]byte{nil, {}} {
		r := field.NewReader(empty)
		if r == nil || r.At() != 0 || r.Err() != api.OK || r.End() != api.OK {
			t.Error("a reader of no bytes is not at its end")
		}
	}
}

func TestP1_4NoReader(t *testing.T) {
	for name, r := range map[string]*field.Reader{"none": nil, "not made": {}} {
		if !readAll(r) {
			t.Errorf("%s: something is read", name)
		}
		wantRead(t, name, r, 0, api.ErrNil)
		if r.End() != api.ErrNil {
			t.Errorf("%s: End = %d", name, r.End())
		}
	}
}

func TestP1_5OneNumber(t *testing.T) {
	for _, w := range widths() {
		for _, n := range numbers() {
			for _, behind := range []string{"", "\x00", "\xff\xff\xff\xff\xff\xff\xff\xff\xff"} {
				r := field.NewReader(append(w.put(nil, n), behind...))
				if got := w.read(r); got != w.fits(n) {
					t.Errorf("width %s of %d with %d bytes behind is read as %d", w.name, n, len(behind), got)
				}
				wantRead(t, "width "+w.name, r, w.bytes, api.OK)
			}
		}
	}
}

// TestP1_5Row puts rows of numbers and texts, in orders that a short rule mixes, and reads each as it was put.
func TestP1_5Row(t *testing.T) {
	all, texts := numbers(), []string{"", "a", "\x00\x00", "\xff", strings.Repeat("ab", 700)}
	for seed := range 40 {
		var b []byte
		mixed := uint32(seed)
		var checks []func(r *field.Reader) bool
		for range 60 {
			mixed = mixed*1664525 + 1013904223
			pick := int(mixed >> 8)
			if pick%5 == 4 {
				s := texts[pick/5%len(texts)]
				b = field.PutText(b, s)
				checks = append(checks, func(r *field.Reader) bool { return r.Text(len(s)) == s })
				continue
			}
			w, n := widths()[pick%5], all[pick/5%len(all)]
			b = w.put(b, n)
			checks = append(checks, func(r *field.Reader) bool { return w.read(r) == w.fits(n) })
		}
		r := field.NewReader(b)
		for i, right := range checks {
			if !right(r) {
				t.Fatalf("row %d: thing %d is not read as it was put", seed, i)
			}
		}
		wantRead(t, "row", r, len(b), api.OK)
		if r.End() != api.OK {
			t.Errorf("row %d: End = %d", seed, r.End())
		}
	}
}

func TestP1_6Order(t *testing.T) {
	for _, w := range widths() {
		for _, a := range numbers() {
			for _, b := range numbers() {
				if a < 0 || b < 0 || w.fits(a) != a || w.fits(b) != b {
					continue
				}
				if got := bytes.Compare(w.put(nil, a), w.put(nil, b)); got != cmp.Compare(a, b) {
					t.Errorf("width %s: the fields of %d and %d stand as %d", w.name, a, b, got)
				}
			}
		}
	}
}
