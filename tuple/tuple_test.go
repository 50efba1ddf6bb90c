package tuple_test

import (
	"cmp"
	"fmt"
	"math"
	"slices"
	"strings"
	"testing"

	"ambry/api"
	"ambry/tuple"
)

func text(s string) api.Part { return api.Part{Kind: api.PartText, S: s} }
func up(n int) api.Part      { return api.Part{Kind: api.PartUp, N: n} }
func down(n int) api.Part    { return api.Part{Kind: api.PartDown, N: n} }

// row is a key of the same part, so many times, and what stands behind.
func row(p api.Part, times int, behind ...api.Part) []api.Part {
	return append(slices.Repeat([]api.Part{p}, times), behind...)
}

// rising are right parts in their order, as the chapter's words tell it.
func rising() []api.Part {
	l := []api.Part{
		text(""), text("\x00"), text("\x00\x00"), text("\x00\x01"), text("\x00\x02"), text("\x00\xff"), text("\x00\xff\x01"),
		text("\x01"), text("\x01\x00"), text("\x02"), text("\x03"), text("\x04"), text("a"), text("a\x00"), text("a\x00\x00"), text("a\x00b"),
		text("a\x01"), text("aa"), text("ab"), text("a\xff"), text("b"), text("é"), text("\xff"), text("\xff\x00"), text("\xff\xff"),
	}
	numbers := []int{math.MinInt, math.MinInt + 1, -1 << 32, -257, -256, -255, -2, -1, 0, 1, 2, 255, 256, 257, 1 << 31, 1 << 32, 1 << 60, math.MaxInt - 1, math.MaxInt}
	for _, n := range numbers {
		l = append(l, up(n))
	}
	slices.Reverse(numbers)
	for _, n := range numbers {
		l = append(l, down(n))
	}
	return l
}

// ordered are keys of up to two parts, in their order: each that begins others stands just ahead of them.
func ordered() [][]api.Part {
	l := [][]api.Part{{}}
	for _, p := range rising() {
		l = append(l, []api.Part{p})
		for _, q := range rising() {
			l = append(l, []api.Part{p, q})
		}
	}
	return l
}

// mixed are keys of several parts, by a short rule.
func mixed() [][]api.Part {
	all, state := rising(), uint32(7)
	var l [][]api.Part
	for range 2000 {
		var key []api.Part
		for range 2 + len(l)%8 {
			state = state*1664525 + 1013904223
			key = append(key, all[int(state>>8)%len(all)])
		}
		l = append(l, key)
	}
	return l
}

// encode tells a key's bytes, and that it is one.
func encode(t *testing.T, l []api.Part) string {
	t.Helper()
	s, err := tuple.Encode(l)
	if err != api.OK {
		t.Fatalf("Encode(%v): Err %d", l, err)
	}
	return s
}

func TestP2_1RightParts(t *testing.T) {
	parts := append(rising(), text(strings.Repeat("a", 125)))
	for _, p := range parts {
		if err := tuple.Check([]api.Part{p}); err != api.OK {
			t.Errorf("Check of %v = %d", p, err)
		}
	}
	for _, l := range [][]api.Part{nil, {}} {
		if err := tuple.Check(l); err != api.OK {
			t.Errorf("Check of no parts = %d", err)
		}
	}
}

// wrong are parts that are not right.
func wrong() []api.Part {
	return []api.Part{
		{}, {S: "a"}, {N: 1}, {Kind: -1}, {Kind: 4}, {Kind: 5, S: "a"}, {Kind: 257}, {Kind: 258, N: 1}, {Kind: math.MinInt}, {Kind: math.MaxInt},
		{Kind: api.PartText, N: 1}, {Kind: api.PartText, N: -1, S: "a"}, {Kind: api.PartText, N: math.MinInt},
		{Kind: api.PartUp, S: "a"}, {Kind: api.PartUp, N: 3, S: "\x00"}, {Kind: api.PartDown, S: "a"}, {Kind: api.PartDown, N: -3, S: "3"},
	}
}

// brief tells of a key that may be long how many parts it has, and the first of them.
func brief(l []api.Part) string {
	return fmt.Sprintf("%d parts %.40v", len(l), l[:min(3, len(l))])
}

// wantRefused looks at what each call that checks a key answers of one that can't be.
func wantRefused(t *testing.T, l []api.Part, want api.Errno) {
	t.Helper()
	if err := tuple.Check(l); err != want {
		t.Errorf("Check of %s = %d, want %d", brief(l), err, want)
	}
	if s, err := tuple.Encode(l); s != "" || err != want {
		t.Errorf("Encode of %s = %.40x, %d, want nothing, %d", brief(l), s, err, want)
	}
	for _, other := range [][]api.Part{nil, {text("a")}, l} {
		if n, err := tuple.Compare(l, other); n != 0 || err != want {
			t.Errorf("Compare of %s and %s = %d, %d, want 0, %d", brief(l), brief(other), n, err, want)
		}
		if n, err := tuple.Compare(other, l); n != 0 || err != want {
			t.Errorf("Compare of %s and %s = %d, %d, want 0, %d", brief(other), brief(l), n, err, want)
		}
	}
}

func TestP2_1WrongParts(t *testing.T) {
	for _, p := range wrong() {
		wantRefused(t, []api.Part{p}, api.ErrArg)
		wantRefused(t, []api.Part{p, text("a"), up(1)}, api.ErrArg)
		wantRefused(t, []api.Part{text("a"), p, up(1)}, api.ErrArg)
		wantRefused(t, []api.Part{text("a"), up(1), p}, api.ErrArg)
	}
}

func TestP2_1MostBytes(t *testing.T) {
	cases := []struct {
		name string
		l    []api.Part
		size int
	}{
		{"a text", []api.Part{text(strings.Repeat("a", 125))}, 128},
		{"a text of ff", []api.Part{text(strings.Repeat("\xff", 125))}, 128},
		{"noughts", []api.Part{text(strings.Repeat("\x00", 62))}, 127},
		{"noughts and one byte", []api.Part{text(strings.Repeat("\x00", 62) + "a")}, 128},
		{"numbers up", row(up(0), 14), 126},
		{"numbers down", row(down(0), 14), 126},
		{"empty texts", row(text(""), 42), 126},
		{"numbers and a text", row(down(-1), 13, text("12345678")), 128},
		{"texts and a number", append(row(text("a"), 29), text(""), up(1)), 128},
	}
	for _, c := range cases {
		if s := encode(t, c.l); len(s) != c.size {
			t.Errorf("%s: %d bytes, want %d", c.name, len(s), c.size)
		}
	}
}

// big are keys of too many bytes.
func big() [][]api.Part {
	return [][]api.Part{
		{text(strings.Repeat("a", 126))}, {text(strings.Repeat("a", 127))}, {text(strings.Repeat("a", 128))}, {text(strings.Repeat("a", 129))}, {text(strings.Repeat("a", 1<<20))},
		{text(strings.Repeat("\x00", 63))}, {text(strings.Repeat("\x00", 62) + "ab")}, {text(strings.Repeat("\x00", 62)), text("")},
		row(up(0), 15), row(down(0), 15), row(up(0), 14, text("")), row(text(""), 43),
		row(down(-1), 13, text("123456789")), row(down(-1), 13, text("1234567\x00")), row(up(1), 100000),
	}
}

func TestP2_1TooManyBytes(t *testing.T) {
	for _, l := range big() {
		wantRefused(t, l, api.ErrBig)
	}
}

func TestP2_1WrongAheadOfBig(t *testing.T) {
	for _, l := range big() {
		for _, p := range wrong() {
			wantRefused(t, append(slices.Clone(l), p), api.ErrArg)
			wantRefused(t, append([]api.Part{p}, l...), api.ErrArg)
		}
	}
}

func TestP2_2Encode(t *testing.T) {
	cases := []struct {
		l    []api.Part
		want string
	}{
		{nil, ""},
		{[]api.Part{}, ""},
		{[]api.Part{text("a"), up(1)}, "\x02\x61\x00\x01\x03\x80\x00\x00\x00\x00\x00\x00\x01"},
		{[]api.Part{down(1)}, "\x04\x7f\xff\xff\xff\xff\xff\xff\xfe"},
		{[]api.Part{text("\x00")}, "\x02\x00\xff\x00\x01"},
		{[]api.Part{text("")}, "\x02\x00\x01"},
		{[]api.Part{text(""), text("")}, "\x02\x00\x01\x02\x00\x01"},
		{[]api.Part{text("\x00\x00b\x00")}, "\x02\x00\xff\x00\xffb\x00\xff\x00\x01"},
		{[]api.Part{text("\x01\xff\x02")}, "\x02\x01\xff\x02\x00\x01"},
		{[]api.Part{text("\x00\x01")}, "\x02\x00\xff\x01\x00\x01"},
		{[]api.Part{up(0)}, "\x03\x80\x00\x00\x00\x00\x00\x00\x00"},
		{[]api.Part{up(-1)}, "\x03\x7f\xff\xff\xff\xff\xff\xff\xff"},
		{[]api.Part{up(math.MinInt)}, "\x03\x00\x00\x00\x00\x00\x00\x00\x00"},
		{[]api.Part{up(math.MaxInt)}, "\x03\xff\xff\xff\xff\xff\xff\xff\xff"},
		{[]api.Part{up(0x0102030405060708)}, "\x03\x81\x02\x03\x04\x05\x06\x07\x08"},
		{[]api.Part{down(0)}, "\x04\x7f\xff\xff\xff\xff\xff\xff\xff"},
		{[]api.Part{down(-1)}, "\x04\x80\x00\x00\x00\x00\x00\x00\x00"},
		{[]api.Part{down(math.MinInt)}, "\x04\xff\xff\xff\xff\xff\xff\xff\xff"},
		{[]api.Part{down(math.MaxInt)}, "\x04\x00\x00\x00\x00\x00\x00\x00\x00"},
		{[]api.Part{down(0x0102030405060708)}, "\x04\x7e\xfd\xfc\xfb\xfa\xf9\xf8\xf7"},
		{[]api.Part{down(2), text("x"), up(-2)}, "\x04\x7f\xff\xff\xff\xff\xff\xff\xfd\x02x\x00\x01\x03\x7f\xff\xff\xff\xff\xff\xff\xfe"},
	}
	for _, c := range cases {
		if s, err := tuple.Encode(c.l); s != c.want || err != api.OK {
			t.Errorf("Encode(%v) = %x, %d, want %x", c.l, s, err, c.want)
		}
		if l, err := tuple.Decode(c.want); !slices.Equal(l, c.l) || err != api.OK {
			t.Errorf("Decode(%x) = %v, %d, want %v", c.want, l, err, c.l)
		}
	}
}

// wantNoKey looks at what Decode answers of bytes that no key has.
func wantNoKey(t *testing.T, s string, want api.Errno) {
	t.Helper()
	if l, err := tuple.Decode(s); len(l) != 0 || err != want {
		t.Errorf("Decode(%.130x) = %v, %d, want none, %d", s, l, err, want)
	}
}

func TestP2_2DecodeNoKey(t *testing.T) {
	starts := []string{"", "\x02a\x00\x01", "\x02\x00\x01", "\x03\x80\x00\x00\x00\x00\x00\x00\x01", "\x04\x7f\xff\xff\xff\xff\xff\xff\xfe"}
	for _, start := range starts {
		for first := range 256 {
			if first < 2 || first > 4 {
				wantNoKey(t, start+string([]byte{byte(first)}), api.ErrFormat)
				wantNoKey(t, start+string([]byte{byte(first)})+"\x80\x00\x00\x00\x00\x00\x00\x00\x01", api.ErrFormat)
			}
			if first != 1 && first != 255 {
				wantNoKey(t, start+"\x02a\x00"+string([]byte{byte(first)}), api.ErrFormat)
				wantNoKey(t, start+"\x02\x00"+string([]byte{byte(first)})+"\x00\x01", api.ErrFormat)
			}
		}
		for _, end := range []string{"\x02", "\x02a", "\x02a\x00", "\x02a\x00\xff", "\x02a\x00\xff\x00", "\x02a\x00\xff\x01", "\x02\xff\xff", "\x02\x01"} {
			wantNoKey(t, start+end, api.ErrFormat)
		}
		for size := range 8 {
			wantNoKey(t, start+"\x03"+strings.Repeat("\x80", size), api.ErrFormat)
			wantNoKey(t, start+"\x04"+strings.Repeat("\x02", size), api.ErrFormat)
		}
	}
}

func TestP2_2DecodeTooManyBytes(t *testing.T) {
	most := "\x02" + strings.Repeat("a", 125) + "\x00\x01"
	if l, err := tuple.Decode(most); !slices.Equal(l, []api.Part{text(strings.Repeat("a", 125))}) || err != api.OK {
		t.Errorf("Decode of 128 bytes = %v, %d", l, err)
	}
	wantNoKey(t, most[1:]+"b", api.ErrFormat)
	wantNoKey(t, "\x02"+strings.Repeat("a", 126)+"\x00\x01", api.ErrBig)
	wantNoKey(t, strings.Repeat("\x02\x00\x01", 43), api.ErrBig)
	for _, s := range []string{most + "\x00", most + "\x02", strings.Repeat("\xff", 129), strings.Repeat("\x00", 129), strings.Repeat("a", 1<<20)} {
		wantNoKey(t, s, api.ErrBig)
	}
	wantNoKey(t, strings.Repeat("\x00", 128), api.ErrFormat)
}

func TestP2_2ArgumentsAndAnswersByThemselves(t *testing.T) {
	given := []api.Part{text("a\x00"), up(1), down(1), text("behind")}
	whole := slices.Clone(given)
	s := encode(t, given[:3])
	tuple.Check(given[:3])
	tuple.Compare(given[:3], given[1:3])
	if !slices.Equal(given, whole) {
		t.Errorf("changed what was handed in: %v", given)
	}
	one, _ := tuple.Decode(s)
	two, _ := tuple.Decode(s)
	clear(one)
	_ = append(one[:1], text("!"))
	if !slices.Equal(two, given[:3]) {
		t.Errorf("two answers share memory: %v", two)
	}
}

// wantCompare looks at how two keys stand, asked both ways.
func wantCompare(t *testing.T, a, b []api.Part, want int) {
	t.Helper()
	if n, err := tuple.Compare(a, b); n != want || err != api.OK {
		t.Errorf("Compare(%v, %v) = %d, %d, want %d", a, b, n, err, want)
	}
	if n, err := tuple.Compare(b, a); n != -want || err != api.OK {
		t.Errorf("Compare(%v, %v) = %d, %d, want %d", b, a, n, err, -want)
	}
}

func TestP2_3Parts(t *testing.T) {
	all := rising()
	for i, p := range all {
		for j, q := range all {
			wantCompare(t, []api.Part{p}, []api.Part{q}, cmp.Compare(i, j))
			wantCompare(t, []api.Part{text("x"), p, down(4)}, []api.Part{text("x"), q, down(3)}, cmp.Or(cmp.Compare(i, j), -1))
		}
	}
}

func TestP2_3Keys(t *testing.T) {
	keys := [][]api.Part{
		nil,
		{text("")}, {text(""), text("")}, {text(""), text(""), down(0)}, {text(""), up(0)}, {text(""), down(0)},
		{text("a")}, {text("a"), text("a")}, {text("a"), down(1)}, {text("a"), down(0)}, {text("a"), down(0), text("")},
		{text("ab")}, {text("b"), up(-1)}, {text("b"), up(0)}, {text("b"), up(0), up(0)},
		{up(-3)}, {up(2), text("z")}, {up(3), text("a")}, {down(3), text("z")}, {down(2), text("a")},
	}
	for i, a := range keys {
		for j, b := range keys {
			wantCompare(t, a, b, cmp.Compare(i, j))
		}
	}
	wantCompare(t, nil, []api.Part{}, 0)
}

func TestP2_3FirstKeysError(t *testing.T) {
	for _, l := range big() {
		for _, p := range wrong() {
			if n, err := tuple.Compare(l, []api.Part{p}); n != 0 || err != api.ErrBig {
				t.Errorf("Compare of a big key and a wrong one = %d, %d", n, err)
			}
			if n, err := tuple.Compare([]api.Part{p}, l); n != 0 || err != api.ErrArg {
				t.Errorf("Compare of a wrong key and a big one = %d, %d", n, err)
			}
		}
	}
}

func TestP2_4Behind(t *testing.T) {
	for _, s := range []string{"", "a", "\xff", "\x00", "\x02a\x00\x01", "é", strings.Repeat("a", 128), strings.Repeat("\xff", 1000)} {
		if got := tuple.Behind(s); got != s+"\xff" {
			t.Errorf("Behind(%.40x) = %.40x", s, got)
		}
	}
}

func TestP2_5BytesStandAsKeys(t *testing.T) {
	last := ""
	for i, l := range ordered() {
		s := encode(t, l)
		if i > 0 && s <= last {
			t.Errorf("%v: the bytes %x do not stand behind %x", l, s, last)
		}
		last = s
	}
	keys := mixed()
	for i, a := range keys {
		for _, b := range keys[max(0, i-50):i] {
			wantCompare(t, a, b, strings.Compare(encode(t, a), encode(t, b)))
		}
	}
}

func TestP2_6KeysThereAndBack(t *testing.T) {
	for _, l := range append(ordered(), mixed()...) {
		s := encode(t, l)
		if got, err := tuple.Decode(s); !slices.Equal(got, l) || err != api.OK {
			t.Errorf("Decode(%x) = %v, %d, want %v", s, got, err, l)
		}
	}
	for _, l := range [][]api.Part{{text(strings.Repeat("a", 125))}, {text(strings.Repeat("\x00", 62) + "a")}, row(down(5), 14), row(text(""), 42)} {
		if got, err := tuple.Decode(encode(t, l)); !slices.Equal(got, l) || err != api.OK {
			t.Errorf("Decode = %v, %d, want %v", got, err, l)
		}
	}
}

// wantJustBytes looks at whether bytes that Decode takes are just those of what it answers.
func wantJustBytes(t *testing.T, s string) bool {
	t.Helper()
	l, err := tuple.Decode(s)
	if err != api.OK {
		wantNoKey(t, s, api.ErrFormat)
		return false
	}
	if got := encode(t, l); got != s {
		t.Errorf("Decode(%x) = %v, of bytes %x", s, l, got)
	}
	return true
}

func TestP2_6BytesThereAndBack(t *testing.T) {
	taken, states := 0, []string{""}
	for range 6 {
		var longer []string
		for _, s := range states {
			if wantJustBytes(t, s) {
				taken++
			}
			for _, c := range []string{"\x00", "\x01", "\x02", "\x03", "a", "\xff"} {
				longer = append(longer, s+c)
			}
		}
		states = longer
	}
	if taken != 33 {
		t.Errorf("Decode takes %d rows of up to 5 of these bytes, want 33", taken)
	}
	for _, l := range mixed()[:300] {
		s := encode(t, l)
		for i := range s {
			wantJustBytes(t, s[:i])
			wantJustBytes(t, s[i:])
			for _, turned := range []byte{1, 2, 0x80, 0xff} {
				wantJustBytes(t, s[:i]+string([]byte{s[i] ^ turned})+s[i+1:])
			}
		}
	}
}

func TestP2_7Ranges(t *testing.T) {
	var keys [][]api.Part
	for i, l := range append(ordered(), mixed()...) {
		if i%5 == 0 || len(l) < 2 {
			keys = append(keys, l, append(slices.Clone(l), text("")), append(slices.Clone(l), down(math.MinInt)))
		}
	}
	bytes := make([]string, len(keys))
	for i, l := range keys {
		bytes[i] = encode(t, l)
	}
	begun := 0
	for i := 0; i < len(keys); i += 3 {
		from, to := bytes[i], tuple.Behind(bytes[i])
		for j, l := range keys {
			begins := len(l) >= len(keys[i]) && slices.Equal(l[:len(keys[i])], keys[i])
			if within := from <= bytes[j] && bytes[j] < to; within != begins {
				t.Fatalf("%v begins %v: %t; within the range: %t", keys[i], l, begins, within)
			}
			if begins {
				begun++
			}
		}
	}
	if begun <= 2*len(keys) {
		t.Errorf("only %d pairs of keys one of which begins the other", begun)
	}
}
