package batch_test

import (
	"math"
	"slices"
	"strings"
	"testing"

	"ambry/api"
	"ambry/batch"
)

// puts tells a change of a key to a value.
func puts(key, val string) api.Change {
	return api.Change{Key: key, Val: val}
}

// drops tells a change by which a key is gone.
func drops(key string) api.Change {
	return api.Change{Key: key, Del: true}
}

// of tells the batch of a time.
func of(time int, l ...api.Change) api.Batch {
	return api.Batch{Time: time, Changes: l}
}

// long tells a text of so many bytes.
func long(size int) string {
	return strings.Repeat("x", size)
}

// key tells one of 256 keys of so many bytes, from 1 on.
func key(i, size int) string {
	return strings.Repeat("k", size-1) + string([]byte{byte(i)})
}

// many tells so many changes, each of a key of its own.
func many(count int) []api.Change {
	var l []api.Change
	for i := range count {
		l = append(l, puts(key(i, 1), "v"))
	}
	return l
}

// sized tells a batch whose record has so many bytes, from 15000 to 20618.
func sized(size int) api.Batch {
	b := of(5)
	rest := size - 10
	for i := range 64 {
		here := rest/(64-i) - 3
		rest -= here + 3
		room := min(120, here/2)
		b.Changes = append(b.Changes, puts(key(i, room), long(here-room)))
	}
	return b
}

// word tells the eight bytes of a number, the highest one first, reckoned by dividing.
func word(n int) string {
	var b [8]byte
	rest := uint64(n)
	for i := 7; i >= 0; i-- {
		b[i], rest = byte(rest%256), rest/256
	}
	return string(b[:])
}

// plainRecord tells the record of a batch as the chapter's words have it.
func plainRecord(b api.Batch) string {
	s := "\x42" + word(b.Time) + string([]byte{byte(len(b.Changes))})
	for _, c := range b.Changes {
		what := byte(0)
		if c.Del {
			what = 1
		}
		s += string([]byte{what, byte(len(c.Key))}) + c.Key + string([]byte{byte(len(c.Val))}) + c.Val
	}
	return s
}

// plainMark tells the record of a mark as the chapter's words have it.
func plainMark(mark int) string {
	return "\x4d" + word(mark)
}

// sameBatch tells whether two batches are alike.
func sameBatch(a, b api.Batch) bool {
	return a.Time == b.Time && slices.Equal(a.Changes, b.Changes)
}

// wantBytes looks at a batch that is right: its record, and what is read of it.
func wantBytes(t *testing.T, name string, b api.Batch) {
	t.Helper()
	want := plainRecord(b)
	if err := batch.Check(b); err != api.OK {
		t.Errorf("%s: Check: Err %d, want 0", name, err)
	}
	if s, err := batch.Bytes(b); s != want || err != api.OK {
		t.Errorf("%s: Bytes = %x, %d, want %x, 0", name, s, err, want)
	}
	wantRead(t, name, want, b, 0)
}

// wantNoBytes looks at a batch that is to be refused.
func wantNoBytes(t *testing.T, name string, b api.Batch, want api.Errno) {
	t.Helper()
	if err := batch.Check(b); err != want {
		t.Errorf("%s: Check: Err %d, want %d", name, err, want)
	}
	if s, err := batch.Bytes(b); s != "" || err != want {
		t.Errorf("%s: Bytes = %x, %d, want none, %d", name, s, err, want)
	}
}

// wantMark looks at a mark that is right: its record, and what is read of it.
func wantMark(t *testing.T, mark int) {
	t.Helper()
	want := plainMark(mark)
	if s, err := batch.Mark(mark); s != want || err != api.OK {
		t.Errorf("Mark(%d) = %x, %d, want %x, 0", mark, s, err, want)
	}
	wantRead(t, "a mark", want, api.Batch{}, mark)
}

// wantRead looks at a record that is to be read.
func wantRead(t *testing.T, name, s string, want api.Batch, wantMark int) {
	t.Helper()
	if b, mark, err := batch.Read(s); !sameBatch(b, want) || mark != wantMark || err != api.OK {
		t.Errorf("%s: Read(%x) = %v, %d, %d, want %v, %d, 0", name, s, b, mark, err, want, wantMark)
	}
}

// wantNoRead looks at bytes that are no record.
func wantNoRead(t *testing.T, name, s string) {
	t.Helper()
	if b, mark, err := batch.Read(s); !sameBatch(b, api.Batch{}) || mark != 0 || err != api.ErrFormat {
		t.Errorf("%s: Read(%x) = %v, %d, %d, want none, %d", name, s, b, mark, err, api.ErrFormat)
	}
}

// right are batches that are right, at the edges of what is.
func right() map[string]api.Batch {
	return map[string]api.Batch{
		"no changes":              of(5),
		"one put":                 of(5, puts("a", "x")),
		"one gone":                of(5, drops("a")),
		"time 1":                  of(1, puts("a", "x")),
		"MaxTime":                 of(1<<60, puts("a", "x"), drops("b")),
		"ahead of MaxTime":        of(1<<60 - 1),
		"a time of all bytes":     of(0x0123456789abcdef, drops("a")),
		"no key, and no value":    of(5, puts("", "")),
		"no key, gone":            of(5, drops("")),
		"keys do not rise":        of(5, puts("c", "1"), puts("a", "2"), drops("b"), puts("", "3")),
		"a value twice":           of(5, puts("a", "x"), puts("b", "x"), puts("c", "x")),
		"a key within another":    of(5, puts("a", "x"), drops("aa"), puts("aaa", "y")),
		"all kinds of bytes":      of(5, puts("\x00\xff\x42", "\x01\x00\x80"), drops("\x00"), puts("\xff", "\x00")),
		"the longest key":         of(5, puts(long(120), "x")),
		"the longest key, gone":   of(5, drops(long(120))),
		"the longest value":       of(5, puts("a", long(199))),
		"both the longest":        of(5, puts(long(120), long(199)), drops(long(119))),
		"as many as may be":       of(5, many(64)...),
		"as long as may be":       sized(16384),
		"as many of the longest":  of(1<<60, sized(16384).Changes...),
		"next to as long":         sized(16383),
		"as many, most of a size": sized(15000),
	}
}

// wrongChanges are changes that can't be kept.
func wrongChanges() map[string]api.Change {
	return map[string]api.Change{
		"key too long":                puts(long(121), "x"),
		"key of MaxKey":               puts(long(128), ""),
		"key much too long":           puts(long(256+5), "x"),
		"key too long, gone":          drops(long(121)),
		"value too long":              puts("x", long(200)),
		"value much too long":         puts("x", long(256+5)),
		"gone with a value":           {Key: "x", Val: "v", Del: true},
		"gone with a nought":          {Key: "x", Val: "\x00", Del: true},
		"gone with the longest value": {Key: "x", Val: long(199), Del: true},
		"gone with one too long":      {Key: "x", Val: long(200), Del: true},
	}
}

// wrong are batches that are not right.
func wrong() map[string]api.Batch {
	m := map[string]api.Batch{
		"nothing":                     {},
		"time 0":                      of(0, puts("a", "x")),
		"time -1":                     of(-1, puts("a", "x")),
		"the least time":              of(math.MinInt),
		"time of MaxTime and 1":       of(1<<60 + 1),
		"the greatest time":           of(math.MaxInt, puts("a", "x")),
		"a key twice":                 of(5, puts("a", "x"), puts("a", "y")),
		"the same change twice":       of(5, puts("a", "x"), puts("a", "x")),
		"no key twice":                of(5, puts("", "x"), puts("", "y")),
		"put, and gone":               of(5, puts("a", "x"), drops("a")),
		"gone, and put":               of(5, drops("a"), puts("a", "x")),
		"gone twice":                  of(5, drops("a"), drops("a")),
		"a key again behind others":   of(5, puts("a", "x"), puts("b", "x"), drops("c"), puts("a", "y")),
		"too many":                    of(5, many(65)...),
		"far too many":                of(5, many(256)...),
		"a key again, as many":        of(5, append(many(63), drops("\x00"))...),
		"a key again, too many":       of(5, append(many(64), drops("\x00"))...),
		"time 0, and too long":        of(0, sized(16385).Changes...),
		"a key again, and too long":   of(5, append(sized(20000).Changes[:63], sized(20000).Changes[0])...),
		"too many, and too long":      of(5, append(sized(20000).Changes, drops("x"))...),
		"gone with one, and too long": of(5, append(sized(20000).Changes[:63], api.Change{Key: "x", Val: "v", Del: true})...),
	}
	above, below := []api.Change{puts("a", "1"), drops("b")}, []api.Change{puts("c", "2")}
	for name, c := range wrongChanges() {
		m[name+", alone"] = of(5, c)
		m[name+", ahead of others"] = of(5, slices.Concat([]api.Change{c}, below)...)
		m[name+", behind others"] = of(5, slices.Concat(above, []api.Change{c})...)
		m[name+", between others"] = of(5, slices.Concat(above, []api.Change{c}, below)...)
	}
	return m
}

func TestP15Example(t *testing.T) {
	s, err := batch.Bytes(of(5, puts("a", "x")))
	if s != "\x42\x00\x00\x00\x00\x00\x00\x00\x05\x01\x00\x01\x61\x01\x78" || err != api.OK {
		t.Errorf("Bytes = %x, %d", s, err)
	}
	l, err := batch.Pairs([]api.Item{{Key: "a", Versions: []api.Version{{Time: 5, Del: true}}}})
	if want := []api.Pair{{Key: "\x61\x0f\xff\xff\xff\xff\xff\xff\xfb", Val: "\x00"}}; !slices.Equal(l, want) || err != api.OK {
		t.Errorf("Pairs = %x, %d", l, err)
	}
}

func TestP15_1Right(t *testing.T) {
	for name, b := range right() {
		wantBytes(t, name, b)
	}
}

func TestP15_1Wrong(t *testing.T) {
	for name, b := range wrong() {
		wantNoBytes(t, name, b, api.ErrArg)
	}
}

// ErrBig is told of batches that are right alone.
func TestP15_1Big(t *testing.T) {
	for size := 16370; size < 16400; size++ {
		b := sized(size)
		if len(plainRecord(b)) != size {
			t.Fatalf("%d bytes, want %d", len(plainRecord(b)), size)
		}
		if size <= 16384 {
			wantBytes(t, "not too long", b)
			continue
		}
		wantNoBytes(t, "too long", b, api.ErrBig)
		b.Changes[63].Key = b.Changes[62].Key
		wantNoBytes(t, "too long, and a key twice", b, api.ErrArg)
	}
	wantNoBytes(t, "as long as can be", sized(20618), api.ErrBig)
	wantNoBytes(t, "as long as can be, at MaxTime", of(1<<60, sized(20618).Changes...), api.ErrBig)
}

func TestP15_1Mark(t *testing.T) {
	for _, mark := range []int{0, 1, 2, 255, 256, 258, 0x0123456789abcdef, 1<<32 - 1, 1 << 32, 1<<60 - 1, 1 << 60} {
		wantMark(t, mark)
	}
	for _, mark := range []int{math.MinInt, math.MinInt + 1, -1 << 60, -1, 1<<60 + 1, 1 << 61, math.MaxInt} {
		if s, err := batch.Mark(mark); s != "" || err != api.ErrArg {
			t.Errorf("Mark(%d) = %x, %d, want none, %d", mark, s, err, api.ErrArg)
		}
	}
}
