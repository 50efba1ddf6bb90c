package reads_test

import (
	"math"
	"slices"
	"strconv"
	"strings"
	"testing"

	"ambry/api"
	"ambry/reads"
	"ambry/space"
)

// keys tells a list of keys.
func keys(l ...string) []string {
	return l
}

// spans tells the spans of ends that stand in turn.
func spans(l ...string) []api.Span {
	var out []api.Span
	for i := 0; i < len(l); i += 2 {
		out = append(out, api.Span{From: l[i], To: l[i+1]})
	}
	return out
}

// of tells reads of keys and spans.
func of(k []string, s []api.Span) api.Reads {
	return api.Reads{Keys: k, Spans: s}
}

// puts tells changes of keys to a value.
func puts(l ...string) []api.Change {
	var out []api.Change
	for _, key := range l {
		out = append(out, api.Change{Key: key, Val: "1"})
	}
	return out
}

// drops tells changes by which keys are gone.
func drops(l ...string) []api.Change {
	var out []api.Change
	for _, key := range l {
		out = append(out, api.Change{Key: key, Del: true})
	}
	return out
}

// long tells a text of so many bytes.
func long(size int) string {
	return strings.Repeat("x", size)
}

// manyKeys tells so many keys that rise, from k100 on.
func manyKeys(n int) []string {
	var l []string
	for i := range n {
		l = append(l, "k"+strconv.Itoa(100+i))
	}
	return l
}

// manySpans tells so many spans that are apart, from s100 on.
func manySpans(n int) []api.Span {
	var l []api.Span
	for i := range n {
		from := "s" + strconv.Itoa(100+i)
		l = append(l, api.Span{From: from, To: from + "m"})
	}
	return l
}

// example tells reads of some keys and spans, the last one of which has no end.
func example() api.Reads {
	return of(keys("", "a", "d", "dd"), spans("b", "d", "f", "g", "z", ""))
}

// same tells whether reads are alike.
func same(a, b api.Reads) bool {
	return slices.Equal(a.Keys, b.Keys) && slices.Equal(a.Spans, b.Spans)
}

// wantCheck looks at a Check.
func wantCheck(t *testing.T, name string, r api.Reads, want api.Errno) {
	t.Helper()
	if err := reads.Check(r); err != want {
		t.Errorf("%s: Check(%q): Err %d, want %d", name, r, err, want)
	}
}

// wantKey looks at a Key that is to be taken.
func wantKey(t *testing.T, r api.Reads, key string, want api.Reads) {
	t.Helper()
	if got, err := reads.Key(r, key); err != api.OK || !same(got, want) {
		t.Errorf("Key(%q, %q) = %q, %d, want %q, 0", r, key, got, err, want)
	}
}

// wantSpan looks at a Span that is to be taken.
func wantSpan(t *testing.T, r api.Reads, from, to string, want api.Reads) {
	t.Helper()
	if got, err := reads.Span(r, from, to); err != api.OK || !same(got, want) {
		t.Errorf("Span(%q, %q, %q) = %q, %d, want %q, 0", r, from, to, got, err, want)
	}
}

// wantNoKey looks at a Key that is to be refused.
func wantNoKey(t *testing.T, name string, r api.Reads, key string, want api.Errno) {
	t.Helper()
	if got, err := reads.Key(r, key); err != want || !same(got, api.Reads{}) {
		t.Errorf("%s: Key(%q, %q) = %q, %d, want none, %d", name, r, key, got, err, want)
	}
}

// wantNoSpan looks at a Span that is to be refused.
func wantNoSpan(t *testing.T, name string, r api.Reads, from, to string, want api.Errno) {
	t.Helper()
	if got, err := reads.Span(r, from, to); err != want || !same(got, api.Reads{}) {
		t.Errorf("%s: Span(%q, %q, %q) = %q, %d, want none, %d", name, r, from, to, got, err, want)
	}
}

// wantCovers looks at a Covers.
func wantCovers(t *testing.T, r api.Reads, key string, want bool) {
	t.Helper()
	if got := reads.Covers(r, key); got != want {
		t.Errorf("Covers(%q, %q) = %t, want %t", r, key, got, want)
	}
}

// wantHit looks at a Hit.
func wantHit(t *testing.T, r api.Reads, l []api.Change, want bool) {
	t.Helper()
	if got := reads.Hit(r, l); got != want {
		t.Errorf("Hit(%q, %v) = %t, want %t", r, l, got, want)
	}
}

// wantStale looks at a Stale.
func wantStale(t *testing.T, r api.Reads, s *space.Space, time int, want bool) {
	t.Helper()
	if got := reads.Stale(r, s, time); got != want {
		t.Errorf("Stale(%q, %v, %d) = %t, want %t", r, s.Items(), time, got, want)
	}
}

// apply applies changes that are to be.
func apply(t *testing.T, s *space.Space, time int, l []api.Change) {
	t.Helper()
	if err := s.Apply(time, l); err != api.OK {
		t.Fatalf("Apply(%d, %v): Err %d, want 0", time, l, err)
	}
}

func TestP16Example(t *testing.T) {
	var r api.Reads
	wantKey(t, r, "c", of(keys("c"), nil))
	wantSpan(t, of(keys("c"), nil), "a", "b", of(keys("c"), spans("a", "b")))
	wantSpan(t, of(keys("c"), spans("a", "b")), "b", "d", of(nil, spans("a", "d")))
	wantCovers(t, of(nil, spans("a", "d")), "d", false)
	wantSpan(t, of(nil, spans("a", "d")), "z", "", of(nil, spans("a", "d", "z", "")))
	wantHit(t, of(nil, spans("a", "d", "z", "")), drops("zz"), true)
}

func TestP16_1Check(t *testing.T) {
	for name, r := range map[string]api.Reads{
		"nothing":                       {},
		"empty lists":                   of(keys(), []api.Span{}),
		"the empty key":                 of(keys(""), nil),
		"keys next to one another":      of(keys("", "\x00", "\x00\x00", "a", "a\x00", "a\x01"), nil),
		"high bytes":                    of(keys("\x7f", "\x80", "\xff", "\xff\xff"), nil),
		"a key too long for a space":    of(keys(long(128), long(129), long(5000)), nil),
		"a span":                        of(nil, spans("a", "b")),
		"a span of one key":             of(nil, spans("a", "a\x00")),
		"a span of the empty key":       of(nil, spans("", "\x00")),
		"a span without an end":         of(nil, spans("a", "")),
		"all":                           of(nil, spans("", "")),
		"spans a key apart":             of(nil, spans("a", "b", "b\x00", "c", "c\x00", "")),
		"a key between":                 of(keys("b"), spans("a", "b", "b\x00", "c")),
		"keys at a span's ends":         of(keys("", "a", "b\xff", "d", "d\x00"), spans("a\x00", "b\xff", "c", "d")),
		"a key ahead of a span":         of(keys("a"), spans("a\x00", "")),
		"the example":                   example(),
		"MaxReads keys":                 of(manyKeys(64), nil),
		"MaxReads spans":                of(nil, manySpans(64)),
		"MaxReads of both":              of(manyKeys(64), manySpans(64)),
		"the last one's To is empty":    of(nil, append(manySpans(63), spans("t", "")...)),
		"spans of keys that are longer": of(nil, spans(long(200), long(201), long(202), long(5000))),
	} {
		wantCheck(t, name, r, api.OK)
	}
}

// wrongReads are reads that are not right; each of them would cover a, or might be thought to.
func wrongReads() map[string]api.Reads {
	return map[string]api.Reads{
		"a key twice":                     of(keys("a", "a"), nil),
		"the empty key twice":             of(keys("", "", "a"), nil),
		"keys fall":                       of(keys("b", "a"), nil),
		"the last keys fall":              of(keys("a", "c", "b"), nil),
		"the first keys fall":             of(keys("b", "a", "c"), nil),
		"a longer key ahead":              of(keys("aa", "a"), nil),
		"the empty key behind":            of(keys("a", ""), nil),
		"keys of high bytes fall":         of(keys("a", "\xff", "\x7f"), nil),
		"a span without keys":             of(nil, spans("a", "a")),
		"a span of To below From":         of(nil, spans("b", "a")),
		"a span of To just below From":    of(nil, spans("a\x00", "a")),
		"a span without keys, behind":     of(nil, spans("a", "b", "c", "c")),
		"a span without keys, ahead":      of(nil, spans("", "b", "c", "bb", "d", "e")),
		"a span without keys, and a key":  of(keys("a"), spans("c", "c")),
		"spans touch":                     of(nil, spans("a", "b", "b", "c")),
		"the last spans touch":            of(nil, spans("a", "b", "c", "d", "d", "")),
		"spans have keys in common":       of(nil, spans("a", "c", "b", "d")),
		"a span within another one":       of(nil, spans("a", "d", "b", "c")),
		"spans of one From":               of(nil, spans("a", "b", "a", "c")),
		"spans of one From and no To":     of(nil, spans("a", "", "a", "")),
		"spans of one To":                 of(nil, spans("a", "c", "b", "c")),
		"a span twice":                    of(nil, spans("a", "b", "a", "b")),
		"all twice":                       of(nil, spans("", "", "", "")),
		"spans fall":                      of(nil, spans("c", "d", "a", "b")),
		"the last spans fall":             of(nil, spans("a", "b", "e", "f", "c", "d")),
		"spans fall, without an end":      of(nil, spans("b", "", "a", "aa")),
		"the first To is empty":           of(nil, spans("a", "", "b", "c")),
		"the second To is empty":          of(nil, spans("a", "b", "c", "", "d", "")),
		"a span behind all":               of(nil, spans("", "", "b", "c")),
		"a key at a span's From":          of(keys("a"), spans("a", "b")),
		"a key within a span":             of(keys("a", "bb"), spans("b", "c")),
		"a key just below a span's To":    of(keys("a", "b\xff"), spans("b", "c")),
		"a key within the last span":      of(keys("a", "f"), spans("b", "c", "e", "")),
		"a key within all":                of(keys("a"), spans("", "")),
		"the empty key within a span":     of(keys(""), spans("", "b")),
		"the last key within the first":   of(keys("", "a", "bb"), spans("b", "c", "e", "f")),
		"more than MaxReads keys":         of(append(keys("a"), manyKeys(64)...), nil),
		"much more than MaxReads keys":    of(append(keys("a"), manyKeys(800)...), nil),
		"more than MaxReads spans":        of(nil, append(spans("a", "b"), manySpans(64)...)),
		"much more than MaxReads spans":   of(nil, append(spans("a", "b"), manySpans(800)...)),
		"more than MaxReads of both":      of(append(keys("a"), manyKeys(64)...), append(spans("b", "c"), manySpans(64)...)),
		"MaxReads keys, and more spans":   of(append(keys("a"), manyKeys(63)...), append(spans("b", "c"), manySpans(64)...)),
		"MaxReads spans, and more keys":   of(append(keys("a"), manyKeys(64)...), manySpans(64)),
		"more keys than MaxReads, a span": of(append(keys("a"), manyKeys(64)...), spans("a\x00", "b")),
	}
}

// Reads that are not right are refused by each call, whatever it is asked besides.
func TestP16_1Wrong(t *testing.T) {
	s := space.New()
	apply(t, s, 5, puts("", "a", "b", "bb", "c", "f", "k100", "s100", "z"))
	for name, r := range wrongReads() {
		wantCheck(t, name, r, api.ErrFormat)
		for _, key := range []string{"", "a", "b", "bb", "f", "k100", "s100", "z", long(129)} {
			wantNoKey(t, name, r, key, api.ErrFormat)
			wantNoSpan(t, name, r, key, "", api.ErrFormat)
			wantNoSpan(t, name, r, key, key, api.ErrFormat)
			wantNoSpan(t, name, r, key, "a", api.ErrFormat)
			wantNoSpan(t, name, r, "", key, api.ErrFormat)
			wantCovers(t, r, key, false)
			wantHit(t, r, puts(key), false)
		}
		wantHit(t, r, puts("", "a", "b", "bb", "f", "k100", "s100", "z"), false)
		for _, time := range []int{math.MinInt, -1, 0, 4, 5, math.MaxInt} {
			wantStale(t, r, s, time, false)
			wantStale(t, r, nil, time, false)
		}
	}
}

func TestP16_2Key(t *testing.T) {
	var r api.Reads
	wantKey(t, r, "", of(keys(""), nil))
	wantKey(t, r, long(5000), of(keys(long(5000)), nil))
	r = example()
	for key, want := range map[string][]string{
		"\x00":      keys("", "\x00", "a", "d", "dd"),
		"A":         keys("", "A", "a", "d", "dd"),
		"a\x00":     keys("", "a", "a\x00", "d", "dd"),
		"az":        keys("", "a", "az", "d", "dd"),
		"d\x00":     keys("", "a", "d", "d\x00", "dd"),
		"de":        keys("", "a", "d", "dd", "de"),
		"e\xff\xff": keys("", "a", "d", "dd", "e\xff\xff"),
		"g":         keys("", "a", "d", "dd", "g"),
		"y\xff":     keys("", "a", "d", "dd", "y\xff"),
	} {
		wantKey(t, r, key, of(want, r.Spans))
	}
	for _, key := range []string{"", "a", "d", "dd", "b", "b\x00", "c", "c\xff", "f", "fz", "z", "z\x00", "zzz", "\xff"} {
		wantKey(t, r, key, r)
	}
	wantKey(t, of(nil, spans("", "")), "", of(nil, spans("", "")))
	wantKey(t, of(nil, spans("", "")), long(5000), of(nil, spans("", "")))
}

func TestP16_2KeyFull(t *testing.T) {
	for _, l := range [][]api.Span{nil, spans("a", "b", "z", ""), append(spans("a", "b"), manySpans(63)...)} {
		full := of(manyKeys(64), l)
		for _, key := range []string{"", "b", "k", "k1000", "k163\x00", "kz", "r", long(129)} {
			wantNoKey(t, "full", full, key, api.ErrFull)
			got, err := reads.Key(of(manyKeys(63), l), key)
			if err != api.OK || len(got.Keys) != 64 || !slices.Contains(got.Keys, key) {
				t.Errorf("Key(63 keys, %q) = %q, %d, want 64 keys, 0", key, got, err)
			}
		}
		for _, key := range full.Keys {
			wantKey(t, full, key, full)
		}
		if len(l) > 0 {
			wantKey(t, full, "a", full)
			wantKey(t, full, "a\xff", full)
		}
	}
	// As many spans as there may be do not count as keys.
	wantKey(t, of(nil, manySpans(64)), "a", of(keys("a"), manySpans(64)))
}

func TestP16_2Span(t *testing.T) {
	r := of(keys("", "a", "d", "dd", "g", "y"), spans("b", "c", "e", "f", "m", "n"))
	for _, x := range []struct {
		from, to string
		want     api.Reads
	}{
		{"g\x00", "h", of(r.Keys, spans("b", "c", "e", "f", "g\x00", "h", "m", "n"))},
		{"a\x00", "aa", of(r.Keys, spans("a\x00", "aa", "b", "c", "e", "f", "m", "n"))},
		{"o", "p", of(r.Keys, spans("b", "c", "e", "f", "m", "n", "o", "p"))},
		{"y\x00", "", of(r.Keys, spans("b", "c", "e", "f", "m", "n", "y\x00", ""))},
		{"c\x00", "d", of(r.Keys, spans("b", "c", "c\x00", "d", "e", "f", "m", "n"))},
		// Spans that touch.
		{"c", "d", of(r.Keys, spans("b", "d", "e", "f", "m", "n"))},
		{"dd\x00", "e", of(r.Keys, spans("b", "c", "dd\x00", "f", "m", "n"))},
		{"a\x00", "b", of(r.Keys, spans("a\x00", "c", "e", "f", "m", "n"))},
		{"n", "o", of(r.Keys, spans("b", "c", "e", "f", "m", "o"))},
		{"c", "e", of(keys("", "a", "g", "y"), spans("b", "f", "m", "n"))},
		{"f", "m", of(keys("", "a", "d", "dd", "y"), spans("b", "c", "e", "n"))},
		// Spans that have keys in common.
		{"bb", "cc", of(r.Keys, spans("b", "cc", "e", "f", "m", "n"))},
		{"dd\x00", "ee", of(r.Keys, spans("b", "c", "dd\x00", "f", "m", "n"))},
		{"bb", "ee", of(keys("", "a", "g", "y"), spans("b", "f", "m", "n"))},
		{"bb", "mm", of(keys("", "a", "y"), spans("b", "n"))},
		{"a\x00", "z", of(keys("", "a"), spans("a\x00", "z"))},
		{"a\x00", "ee", of(keys("", "a", "g", "y"), spans("a\x00", "f", "m", "n"))},
		{"bb", "z", of(keys("", "a"), spans("b", "z"))},
		{"bb", "", of(keys("", "a"), spans("b", ""))},
		{"ee", "", of(keys("", "a", "d", "dd"), spans("b", "c", "e", ""))},
		{"n", "", of(keys("", "a", "d", "dd", "g"), spans("b", "c", "e", "f", "m", ""))},
		{"", "", of(nil, spans("", ""))},
		{"", "bb", of(keys("d", "dd", "g", "y"), spans("", "c", "e", "f", "m", "n"))},
		// Spans of keys that are covered.
		{"b", "c", r},
		{"b", "bb", r},
		{"bb", "c", r},
		{"bb", "bbb", r},
		{"m", "n", r},
		// Keys at a span's ends.
		{"d", "dd", of(keys("", "a", "dd", "g", "y"), spans("b", "c", "d", "dd", "e", "f", "m", "n"))},
		{"d", "dd\x00", of(keys("", "a", "g", "y"), spans("b", "c", "d", "dd\x00", "e", "f", "m", "n"))},
		{"d\x00", "dd", of(r.Keys, spans("b", "c", "d\x00", "dd", "e", "f", "m", "n"))},
		{"d\x00", "dd\x00", of(keys("", "a", "d", "g", "y"), spans("b", "c", "d\x00", "dd\x00", "e", "f", "m", "n"))},
		{"", "\x00", of(keys("a", "d", "dd", "g", "y"), spans("", "\x00", "b", "c", "e", "f", "m", "n"))},
	} {
		wantSpan(t, r, x.from, x.to, x.want)
	}
	wantSpan(t, api.Reads{}, "a", "b", of(nil, spans("a", "b")))
	wantSpan(t, api.Reads{}, "", "", of(nil, spans("", "")))
	wantSpan(t, api.Reads{}, long(129), long(5000), of(nil, spans(long(129), long(5000))))
}

// An empty To is behind all keys: it is not the From of a span that begins with the empty key.
func TestP16_2SpanWithoutEnd(t *testing.T) {
	wantSpan(t, of(nil, spans("z", "")), "", "b", of(nil, spans("", "b", "z", "")))
	wantSpan(t, of(nil, spans("", "b")), "z", "", of(nil, spans("", "b", "z", "")))
	wantSpan(t, of(keys("m"), spans("", "b", "z", "")), "c", "d", of(keys("m"), spans("", "b", "c", "d", "z", "")))
	wantSpan(t, of(keys("m"), spans("", "b", "z", "")), "", "a", of(keys("m"), spans("", "b", "z", "")))
	wantSpan(t, of(keys("m"), spans("", "b", "z", "")), "zz", "", of(keys("m"), spans("", "b", "z", "")))
	wantSpan(t, of(keys("m"), spans("z", "")), "y", "", of(keys("m"), spans("y", "")))
	wantSpan(t, of(keys("m"), spans("z", "")), "y", "zz", of(keys("m"), spans("y", "")))
	wantSpan(t, of(keys("m"), spans("z", "")), "y", "z", of(keys("m"), spans("y", "")))
	wantSpan(t, of(nil, spans("", "")), "", "b", of(nil, spans("", "")))
	wantSpan(t, of(nil, spans("", "")), "z", "", of(nil, spans("", "")))
	wantSpan(t, of(nil, spans("", "b")), "", "", of(nil, spans("", "")))
}

func TestP16_2SpanWithoutKeys(t *testing.T) {
	for _, r := range []api.Reads{{}, example(), of(manyKeys(64), manySpans(64)), of(nil, spans("", ""))} {
		for _, s := range spans("a", "a", "b", "a", "a\x00", "a", "\xff", "\x7f", "c", "b", "z", "y", "zz", "z", "q", "q", "x", "\x00") {
			wantSpan(t, r, s.From, s.To, r)
		}
	}
}

func TestP16_2SpanFull(t *testing.T) {
	for _, k := range [][]string{nil, manyKeys(64)} {
		full := of(k, manySpans(64))
		for _, s := range spans("a", "b", "s", "s1", "s100mm", "s100z", "s131n", "s131o", "s163n", "s163z", "t", "", "k100", "k101") {
			wantNoSpan(t, "full", full, s.From, s.To, api.ErrFull)
		}
		// What is put together with a span that is there is not one more.
		wantSpan(t, full, "s100", "s100m", full)
		wantSpan(t, full, "s150a", "s150b", full)
		got := append(manySpans(63), spans("s163", "s163z")...)
		wantSpan(t, full, "s163m", "s163z", of(k, got))
		wantSpan(t, full, "s163a", "", of(k, append(manySpans(63), spans("s163", "")...)))
		wantSpan(t, full, "s100m", "s101", of(k, append(spans("s100", "s101m"), manySpans(64)[2:]...)))
		wantSpan(t, full, "s", "", of(k, spans("s", "")))
		wantSpan(t, full, "", "", of(nil, spans("", "")))
		wantSpan(t, of(k, manySpans(63)), "t", "", of(k, append(manySpans(63), spans("t", "")...)))
		wantSpan(t, of(k, manySpans(63)), "a", "b", of(k, append(spans("a", "b"), manySpans(63)...)))
		wantSpan(t, of(k, manySpans(64)[1:]), "s100", "s100m", full)
	}
	// A span takes the keys within it away, so that there is room for others.
	r, err := reads.Span(of(manyKeys(64), nil), "k100", "k101")
	if err != api.OK || !same(r, of(manyKeys(64)[1:], spans("k100", "k101"))) {
		t.Fatalf("Span of 64 keys = %q, %d", r, err)
	}
	wantKey(t, r, "z", of(append(manyKeys(64)[1:], "z"), r.Spans))
}

func TestP16_3Covers(t *testing.T) {
	r := example()
	for _, key := range []string{"", "a", "d", "dd", "b", "b\x00", "bzz", "c", "c\xff\xff", "f", "f\x00", "fff", "z", "z\x00", "zz", "\xff", "z" + long(5000)} {
		wantCovers(t, r, key, true)
	}
	for _, key := range []string{"\x00", "A", "a\x00", "aa", "a\xff", "d\x00", "dc", "ddd", "dd\x00", "e", "e\xff", "g", "g\x00", "y", "y\xff", long(5000)} {
		wantCovers(t, r, key, false)
	}
	for _, key := range []string{"", "\x00", "a", "\xff", long(128), long(129)} {
		wantCovers(t, api.Reads{}, key, false)
		wantCovers(t, of(nil, spans("", "")), key, true)
		wantCovers(t, of(keys(key), nil), key, true)
		wantCovers(t, of(keys(key+"\x00"), nil), key, false)
		wantCovers(t, of(keys(key), nil), key+"\x00", false)
		wantCovers(t, of(nil, spans(key, key+"\x00")), key, true)
		wantCovers(t, of(nil, spans(key, key+"\x00")), key+"\x00", false)
		wantCovers(t, of(nil, spans(key+"\x00", "")), key, false)
	}
	full := of(manyKeys(64), manySpans(64))
	for _, key := range full.Keys {
		wantCovers(t, full, key, true)
		wantCovers(t, full, key+"a", false)
	}
	for _, s := range full.Spans {
		wantCovers(t, full, s.From, true)
		wantCovers(t, full, s.From+"lz", true)
		wantCovers(t, full, s.To, false)
	}
}

func TestP16_3Hit(t *testing.T) {
	r := example()
	for _, l := range [][]api.Change{
		puts(""), puts("a"), drops("a"), puts("c"), drops("c"), drops("z"), drops("zz"),
		puts("e", "a"), puts("a", "e"), puts("e", "a", "g"), drops("e", "g", "fz"), drops("A", "B", "C", "dd"),
		append(puts("e"), drops("f")...),
		{{Key: "c", Val: long(500), Del: true}},
		{{Key: "e"}, {Key: "e"}, {Key: "b"}, {Key: "b"}},
	} {
		wantHit(t, r, l, true)
		wantHit(t, of(nil, spans("", "")), l, true)
		wantHit(t, api.Reads{}, l, false)
	}
	for _, l := range [][]api.Change{
		nil, {}, puts("e"), drops("e"), puts("\x00", "aa", "d\x00", "dc", "g", "y"), drops("A", "e", "y\xff"), puts(long(129)),
		{{Key: "g", Val: "a"}, {Key: "y", Val: "b"}, {Key: "e", Val: long(500), Del: true}},
	} {
		wantHit(t, r, l, false)
		wantHit(t, api.Reads{}, l, false)
	}
	many := puts(manyKeys(800)...)
	wantHit(t, r, many, false)
	wantHit(t, r, append(many, puts("a")...), true)
	wantHit(t, of(keys("k899"), nil), many, true)
}

// gaps are keys that example does not cover, covers keys that it does.
var (
	gaps    = []string{"\x00", "A", "a\x00", "az", "d\x00", "dc", "dda", "e", "e\xff", "g", "y\xff", long(128)}
	covered = []string{"", "a", "d", "dd", "b", "b\x00", "c\xff", "f", "fz", "z", "z\x00", "\xff", "z" + long(127)}
)

func TestP16_3Stale(t *testing.T) {
	r := example()
	s := space.New()
	wantStale(t, r, s, math.MinInt, false)
	apply(t, s, 3, puts(gaps...))
	apply(t, s, 4, drops(gaps...))
	for _, time := range []int{math.MinInt, -1, 0, 2, 3, 4, math.MaxInt} {
		wantStale(t, r, s, time, false)
	}
	time := 4
	for _, key := range covered {
		for _, l := range [][]api.Change{puts(key), drops(key)} {
			time += 2
			apply(t, s, time, l)
			for _, t2 := range []int{math.MinInt, -1, 0, 4, time - 2, time - 1} {
				wantStale(t, r, s, t2, true)
			}
			for _, t2 := range []int{time, time + 1, 1 << 60, math.MaxInt} {
				wantStale(t, r, s, t2, false)
			}
			wantStale(t, api.Reads{}, s, 0, false)
			wantStale(t, of(nil, spans("", "")), s, time-1, true)
		}
	}
}

// Each key that is covered by itself makes reads stale, and none next to it.
func TestP16_3StaleKeys(t *testing.T) {
	for _, key := range []string{"", "\x00", "a", "a\x00", "\xff", long(127), long(128)} {
		s := space.New()
		apply(t, s, 7, puts(key))
		for _, r := range []api.Reads{of(keys(key), nil), of(nil, spans(key, key+"\x00")), of(nil, spans(key, "")), of(nil, spans("", key+"\x00"))} {
			wantStale(t, r, s, 6, true)
			wantStale(t, r, s, 7, false)
		}
		for _, r := range []api.Reads{of(keys(key+"\x00"), nil), of(nil, spans(key+"\x00", "")), of(nil, spans(key+"\x00", key+"\x01")), of(keys(key+long(129)), nil)} {
			wantStale(t, r, s, 6, false)
		}
		if key != "" {
			wantStale(t, of(keys(key[:len(key)-1]), nil), s, 6, false)
			wantStale(t, of(nil, spans("", key)), s, 6, false)
		}
	}
}

// Stale is asked of whatever versions there are, one of many keys' too, and behind a vacuum.
func TestP16_3StaleSpace(t *testing.T) {
	s := space.New()
	apply(t, s, 1, puts("a", "b", "c", "d"))
	apply(t, s, 5, drops("b"))
	apply(t, s, 1<<60, puts("e"))
	wantStale(t, of(keys("a", "c"), nil), s, 0, true)
	wantStale(t, of(keys("a", "c"), nil), s, 1, false)
	wantStale(t, of(keys("a", "b", "c"), nil), s, 4, true)
	wantStale(t, of(keys("A", "c", "z"), nil), s, 0, true)
	wantStale(t, of(keys("A", "ba"), spans("B", "C", "d", "dd")), s, 0, true)
	wantStale(t, of(keys("A", "ba"), spans("B", "C", "d\x00", "dd")), s, 0, false)
	wantStale(t, of(keys("e"), nil), s, 1<<60-1, true)
	wantStale(t, of(keys("e"), nil), s, 1<<60, false)
	if err := s.Vacuum(5); err != api.OK {
		t.Fatalf("Vacuum: Err %d", err)
	}
	wantStale(t, of(keys("b"), nil), s, 4, false)
	wantStale(t, of(keys("c"), nil), s, 0, true)
}

func TestP16_3StaleNoSpace(t *testing.T) {
	for _, s := range []*space.Space{nil, {}} {
		for _, r := range []api.Reads{{}, example(), of(nil, spans("", "")), of(keys("k"), nil)} {
			for _, time := range []int{math.MinInt, -1, 0, 1, math.MaxInt} {
				wantStale(t, r, s, time, false)
			}
		}
	}
}
