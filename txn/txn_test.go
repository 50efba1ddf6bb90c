package txn_test

import (
	"math"
	"slices"
	"strconv"
	"strings"
	"testing"

	"ambry/api"
	"ambry/space"
	"ambry/txn"
)

// puts tells a change of a key to a value.
func puts(key, val string) api.Change {
	return api.Change{Key: key, Val: val}
}

// drops tells a change by which a key is gone.
func drops(key string) api.Change {
	return api.Change{Key: key, Del: true}
}

// changes tells a list of changes.
func changes(l ...api.Change) []api.Change {
	return l
}

// pairs tells the pairs of keys and values that stand in turn.
func pairs(l ...string) []api.Pair {
	var out []api.Pair
	for i := 0; i < len(l); i += 2 {
		out = append(out, api.Pair{Key: l[i], Val: l[i+1]})
	}
	return out
}

// keys tells a list of keys.
func keys(l ...string) []string {
	return l
}

// spans tells the spans of ends that stand in turn.
func spans(l ...string) []api.Span {
	var out []api.Span
	for i := 0; i < len(l); i += 2 {
		out = append(out, api.Span{From: l[i], To: l[i+1]})
	}
	return out
}

// of tells reads of keys and spans.
func of(k []string, s []api.Span) api.Reads {
	return api.Reads{Keys: k, Spans: s}
}

// long tells a text of so many bytes.
func long(size int) string {
	return strings.Repeat("x", size)
}

// numbered tells so many keys that rise, from k100 on.
func numbered(n int) []string {
	var l []string
	for i := range n {
		l = append(l, "k"+strconv.Itoa(100+i))
	}
	return l
}

// numberedPuts tells changes of so many keys that rise.
func numberedPuts(n int) []api.Change {
	var l []api.Change
	for _, key := range numbered(n) {
		l = append(l, puts(key, "1"))
	}
	return l
}

// same tells whether reads are alike.
func same(a, b api.Reads) bool {
	return slices.Equal(a.Keys, b.Keys) && slices.Equal(a.Spans, b.Spans)
}

// apply applies changes that are to be.
func apply(t *testing.T, s *space.Space, time int, l ...api.Change) {
	t.Helper()
	if err := s.Apply(time, l); err != api.OK {
		t.Fatalf("Apply(%d, %v): Err %d, want 0", time, l, err)
	}
}

// vacuum raises a space's mark to one that may be.
func vacuum(t *testing.T, s *space.Space, mark int) {
	t.Helper()
	if err := s.Vacuum(mark); err != api.OK {
		t.Fatalf("Vacuum(%d): Err %d, want 0", mark, err)
	}
}

// begin tells a transaction that may begin.
func begin(t *testing.T, s *space.Space, time int) *txn.Txn {
	t.Helper()
	x, err := txn.Begin(s, time)
	if x == nil || err != api.OK {
		t.Fatalf("Begin at %d: %v, %d, want a transaction, 0", time, x, err)
	}
	return x
}

// wantNoBegin looks at a Begin that is to be refused.
func wantNoBegin(t *testing.T, s *space.Space, time int, want api.Errno) {
	t.Helper()
	if x, err := txn.Begin(s, time); x != nil || err != want {
		t.Errorf("Begin at %d: %v, %d, want none, %d", time, x, err, want)
	}
}

// wantGet looks at a Get.
func wantGet(t *testing.T, x *txn.Txn, key, want string, e api.Errno) {
	t.Helper()
	if val, err := x.Get(key); val != want || err != e {
		t.Errorf("Get(%q) = %q, %d, want %q, %d", key, val, err, want, e)
	}
}

// wantScan looks at a Scan that is to tell something.
func wantScan(t *testing.T, x *txn.Txn, from, to string, most int, want []api.Pair) {
	t.Helper()
	if got, err := x.Scan(from, to, most); !slices.Equal(got, want) || err != api.OK {
		t.Errorf("Scan(%q, %q, %d) = %v, %d, want %v, 0", from, to, most, got, err, want)
	}
}

// wantNoScan looks at a Scan that is to be refused.
func wantNoScan(t *testing.T, x *txn.Txn, from, to string, most int, want api.Errno) {
	t.Helper()
	if got, err := x.Scan(from, to, most); len(got) != 0 || err != want {
		t.Errorf("Scan(%q, %q, %d) = %v, %d, want none, %d", from, to, most, got, err, want)
	}
}

// wantPut looks at a Put.
func wantPut(t *testing.T, x *txn.Txn, key, val string, want api.Errno) {
	t.Helper()
	if err := x.Put(key, val); err != want {
		t.Errorf("Put(%q, %q): Err %d, want %d", key, val, err, want)
	}
}

// wantDrop looks at a Drop.
func wantDrop(t *testing.T, x *txn.Txn, key string, want api.Errno) {
	t.Helper()
	if err := x.Drop(key); err != want {
		t.Errorf("Drop(%q): Err %d, want %d", key, err, want)
	}
}

// wantRestore looks at a Restore.
func wantRestore(t *testing.T, name string, x *txn.Txn, l []api.Change, want api.Errno) {
	t.Helper()
	if err := x.Restore(l); err != want {
		t.Errorf("%s: Restore(%v): Err %d, want %d", name, l, err, want)
	}
}

// wantEnd looks at an End.
func wantEnd(t *testing.T, x *txn.Txn, want api.Errno) {
	t.Helper()
	if err := x.End(); err != want {
		t.Errorf("End: Err %d, want %d", err, want)
	}
}

// wantReads looks at what was read.
func wantReads(t *testing.T, x *txn.Txn, want api.Reads) {
	t.Helper()
	if got := x.Reads(); !same(got, want) {
		t.Errorf("Reads: %q, want %q", got, want)
	}
}

// wantChanges looks at the changes.
func wantChanges(t *testing.T, x *txn.Txn, want []api.Change) {
	t.Helper()
	if got := x.Changes(); !slices.Equal(got, want) {
		t.Errorf("Changes: %v, want %v", got, want)
	}
}

// wantStale looks at a Stale.
func wantStale(t *testing.T, x *txn.Txn, want bool) {
	t.Helper()
	if got := x.Stale(); got != want {
		t.Errorf("Stale of %q, %v: %t, want %t", x.Reads(), x.Changes(), got, want)
	}
}

// wantMeets looks at a Meets.
func wantMeets(t *testing.T, x *txn.Txn, l []api.Change, want bool) {
	t.Helper()
	if got := x.Meets(l); got != want {
		t.Errorf("Meets(%v) of %q, %v: %t, want %t", l, x.Reads(), x.Changes(), got, want)
	}
}

// example tells a space of some keys, one of which is gone for a while.
func example(t *testing.T) *space.Space {
	t.Helper()
	s := space.New()
	apply(t, s, 2, puts("a", "1"), puts("c", "3"))
	apply(t, s, 5, puts("b", "2"), drops("a"))
	apply(t, s, 8, puts("a", "4"), puts("e", ""))
	return s
}

// readKeys lets a transaction read keys that nothing has.
func readKeys(t *testing.T, x *txn.Txn, l []string) {
	t.Helper()
	for _, key := range l {
		wantGet(t, x, key, "", api.ErrNone)
	}
}

// readSpans lets a transaction read so many spans that are apart, and tells them.
func readSpans(t *testing.T, x *txn.Txn, n int) []api.Span {
	t.Helper()
	var l []api.Span
	for _, key := range numbered(n) {
		s := api.Span{From: key + "m", To: key + "n"}
		wantScan(t, x, s.From, s.To, -1, nil)
		l = append(l, s)
	}
	return l
}

func TestP17Example(t *testing.T) {
	s := space.New()
	apply(t, s, 5, puts("a", "1"))
	x := begin(t, s, 5)
	wantPut(t, x, "b", "2", api.OK)
	wantScan(t, x, "", "", -1, pairs("a", "1", "b", "2"))
	wantReads(t, x, of(nil, spans("", "")))
	wantStale(t, x, false)
	apply(t, s, 6, puts("c", "3"))
	wantScan(t, x, "", "", -1, pairs("a", "1", "b", "2"))
	wantStale(t, x, true)
	y := begin(t, s, 6)
	wantPut(t, y, "b", "2", api.OK)
	wantGet(t, y, "b", "2", api.OK)
	wantReads(t, y, api.Reads{})
}

// wantNothing looks at a transaction that is none.
func wantNothing(t *testing.T, x *txn.Txn) {
	t.Helper()
	for _, key := range []string{"", "a", long(5000)} {
		wantGet(t, x, key, "", api.ErrNil)
		wantPut(t, x, key, "1", api.ErrNil)
		wantPut(t, x, key, long(5000), api.ErrNil)
		wantDrop(t, x, key, api.ErrNil)
		wantMeets(t, x, changes(puts(key, "1")), false)
		for _, most := range []int{math.MinInt, -1, 0, 1, math.MaxInt} {
			wantNoScan(t, x, key, "", most, api.ErrNil)
		}
	}
	for _, l := range [][]api.Change{nil, changes(puts("a", "1")), changes(puts("b", ""), puts("a", "")), numberedPuts(65)} {
		wantRestore(t, "no transaction", x, l, api.ErrNil)
		wantMeets(t, x, l, false)
	}
	wantEnd(t, x, api.ErrNil)
	wantStale(t, x, false)
	wantReads(t, x, api.Reads{})
	wantChanges(t, x, nil)
	for _, s := range []*space.Space{nil, {}, space.New(), example(t)} {
		if x.Over(s) {
			t.Errorf("no transaction is over %v", s)
		}
	}
	if x.Time() != 0 || x.Ended() {
		t.Errorf("no transaction: Time %d, Ended %t, want 0, false", x.Time(), x.Ended())
	}
}

// Each call of no transaction, or of one that Begin did not make, does nothing.
func TestP17Nil(t *testing.T) {
	for _, x := range []*txn.Txn{nil, {}} {
		wantNothing(t, x)
		wantNothing(t, x)
	}
}

func TestP17_1BeginRefused(t *testing.T) {
	far := []int{math.MinInt, -1 << 60, -1, 0, 1, 2, 5, 8, 1 << 60, 1<<60 + 1, math.MaxInt}
	for _, s := range []*space.Space{nil, {}} {
		for _, time := range far {
			wantNoBegin(t, s, time, api.ErrNil)
		}
	}
	for _, time := range far {
		if time < 0 {
			wantNoBegin(t, space.New(), time, api.ErrOld)
		}
		if time > 0 {
			wantNoBegin(t, space.New(), time, api.ErrFuture)
		}
	}
	s := example(t)
	vacuum(t, s, 4)
	for _, time := range []int{math.MinInt, -1, 0, 1, 3} {
		wantNoBegin(t, s, time, api.ErrOld)
	}
	for _, time := range []int{9, 10, 1 << 60, math.MaxInt} {
		wantNoBegin(t, s, time, api.ErrFuture)
	}
}

func TestP17_1Begin(t *testing.T) {
	look := func(s *space.Space, time int) {
		t.Helper()
		x := begin(t, s, time)
		wantReads(t, x, api.Reads{})
		wantChanges(t, x, nil)
		wantStale(t, x, false)
		wantMeets(t, x, changes(puts("", ""), puts("a", "1"), drops("b")), false)
		if x.Ended() || x.Time() != time || !x.Over(s) {
			t.Errorf("begun at %d: Ended %t, Time %d, Over %t, want false, the time, true", time, x.Ended(), x.Time(), x.Over(s))
		}
	}
	look(space.New(), 0)
	s := example(t)
	for time := range 9 {
		look(s, time)
	}
	// The empty key, by which nobody else's time is told, may have something, or nothing.
	apply(t, s, 9, puts("", "x"))
	apply(t, s, 10, drops(""))
	vacuum(t, s, 4)
	for time := 4; time <= 10; time++ {
		look(s, time)
	}
	apply(t, s, 1<<60)
	look(s, 1<<60)
}

func TestP17_2Get(t *testing.T) {
	s := example(t)
	x := begin(t, s, 6)
	wantGet(t, x, "c", "3", api.OK)
	wantReads(t, x, of(keys("c"), nil))
	wantGet(t, x, "a", "", api.ErrNone)
	wantReads(t, x, of(keys("a", "c"), nil))
	wantGet(t, x, "e", "", api.ErrNone)
	wantGet(t, x, "zz", "", api.ErrNone)
	wantGet(t, x, "", "", api.ErrNone)
	wantReads(t, x, of(keys("", "a", "c", "e", "zz"), nil))
	wantGet(t, x, "c", "3", api.OK)
	wantReads(t, x, of(keys("", "a", "c", "e", "zz"), nil))
	wantGet(t, x, long(5000), "", api.ErrNone)
	wantReads(t, x, of(keys("", "a", "c", "e", long(5000), "zz"), nil))
	y := begin(t, s, 8)
	wantGet(t, y, "a", "4", api.OK)
	wantGet(t, y, "e", "", api.OK)
	wantReads(t, y, of(keys("a", "e"), nil))
}

// What a transaction has changed it sees, without reading it.
func TestP17_2GetOwn(t *testing.T) {
	x := begin(t, example(t), 8)
	wantPut(t, x, "c", "own", api.OK)
	wantPut(t, x, "new", "", api.OK)
	wantDrop(t, x, "a", api.OK)
	wantDrop(t, x, "zz", api.OK)
	wantGet(t, x, "c", "own", api.OK)
	wantGet(t, x, "new", "", api.OK)
	wantGet(t, x, "a", "", api.ErrNone)
	wantGet(t, x, "zz", "", api.ErrNone)
	wantReads(t, x, api.Reads{})
	wantDrop(t, x, "c", api.OK)
	wantPut(t, x, "a", "again", api.OK)
	wantGet(t, x, "c", "", api.ErrNone)
	wantGet(t, x, "a", "again", api.OK)
	wantReads(t, x, api.Reads{})
	// A key that was read stays so, whatever is put.
	wantGet(t, x, "b", "2", api.OK)
	wantPut(t, x, "b", "own", api.OK)
	wantGet(t, x, "b", "own", api.OK)
	wantReads(t, x, of(keys("b"), nil))
}

func TestP17_2GetWithinSpan(t *testing.T) {
	x := begin(t, example(t), 8)
	wantScan(t, x, "b", "d", -1, pairs("b", "2", "c", "3"))
	wantGet(t, x, "b", "2", api.OK)
	wantGet(t, x, "cc", "", api.ErrNone)
	wantReads(t, x, of(nil, spans("b", "d")))
	wantGet(t, x, "d", "", api.ErrNone)
	wantGet(t, x, "a", "4", api.OK)
	wantReads(t, x, of(keys("a", "d"), spans("b", "d")))
}

func TestP17_2GetOld(t *testing.T) {
	s := example(t)
	x := begin(t, s, 5)
	wantGet(t, x, "c", "3", api.OK)
	wantPut(t, x, "own", "1", api.OK)
	wantDrop(t, x, "b", api.OK)
	vacuum(t, s, 5)
	wantGet(t, x, "e", "", api.ErrNone)
	vacuum(t, s, 6)
	for _, key := range []string{"", "a", "c", "e", "zz", long(5000)} {
		wantGet(t, x, key, "", api.ErrOld)
	}
	wantGet(t, x, "own", "1", api.OK)
	wantGet(t, x, "b", "", api.ErrNone)
	wantReads(t, x, of(keys("c", "e"), nil))
	wantEnd(t, x, api.OK)
	wantGet(t, x, "c", "", api.ErrDone)
}

func TestP17_2GetFull(t *testing.T) {
	s := example(t)
	x := begin(t, s, 6)
	full := numbered(64)
	readKeys(t, x, full)
	wantPut(t, x, "own", "1", api.OK)
	for _, key := range []string{"", "a", "c", "k", "k1000", "zz"} {
		wantGet(t, x, key, "", api.ErrFull)
	}
	wantReads(t, x, of(full, nil))
	readKeys(t, x, full)
	wantGet(t, x, "own", "1", api.OK)
	// A span is none of the keys, and what is within one neither.
	wantScan(t, x, "a", "c", -1, pairs("b", "2"))
	wantGet(t, x, "a", "", api.ErrNone)
	wantGet(t, x, "c", "", api.ErrFull)
	wantReads(t, x, of(full, spans("a", "c")))
	wantScan(t, x, "k16", "k2", -1, nil)
	wantGet(t, x, "c", "3", api.OK)
	wantReads(t, x, of(append(keys("c"), full[:60]...), spans("a", "c", "k16", "k2")))
	readKeys(t, x, keys("l", "m", "n"))
	wantGet(t, x, "z", "", api.ErrFull)
	vacuum(t, s, 7)
	wantGet(t, x, "z", "", api.ErrOld)
	wantGet(t, x, "c", "", api.ErrOld)
}

func TestP17_3Scan(t *testing.T) {
	// At 8 there is a 4, b 2, c 3, e of nothing.
	for _, x := range []struct {
		from, to string
		most     int
		want     []api.Pair
		read     []api.Span
	}{
		{"", "", -1, pairs("a", "4", "b", "2", "c", "3", "e", ""), spans("", "")},
		{"", "", math.MinInt, pairs("a", "4", "b", "2", "c", "3", "e", ""), spans("", "")},
		{"", "", math.MaxInt, pairs("a", "4", "b", "2", "c", "3", "e", ""), spans("", "")},
		{"", "", 5, pairs("a", "4", "b", "2", "c", "3", "e", ""), spans("", "")},
		{"", "", 4, pairs("a", "4", "b", "2", "c", "3", "e", ""), spans("", "e\x00")},
		{"", "", 3, pairs("a", "4", "b", "2", "c", "3"), spans("", "c\x00")},
		{"", "", 1, pairs("a", "4"), spans("", "a\x00")},
		{"", "", 0, nil, nil},
		{"a", "c", -1, pairs("a", "4", "b", "2"), spans("a", "c")},
		{"a", "c", 3, pairs("a", "4", "b", "2"), spans("a", "c")},
		{"a", "c", 2, pairs("a", "4", "b", "2"), spans("a", "b\x00")},
		{"a", "c", 1, pairs("a", "4"), spans("a", "a\x00")},
		{"a", "c", 0, nil, nil},
		{"a\x00", "b\x00", -1, pairs("b", "2"), spans("a\x00", "b\x00")},
		{"a\x00", "b\x00", 1, pairs("b", "2"), spans("a\x00", "b\x00")},
		{"a\x00", "b", -1, nil, spans("a\x00", "b")},
		{"a\x00", "b", 1, nil, spans("a\x00", "b")},
		{"d", "", -1, pairs("e", ""), spans("d", "")},
		{"d", "", 1, pairs("e", ""), spans("d", "e\x00")},
		{"f", "", 1, nil, spans("f", "")},
		{"", "a", 1, nil, spans("", "a")},
		{"b", "b", -1, nil, nil},
		{"c", "a", -1, nil, nil},
		{"c", "a", 1, nil, nil},
		{"c", "a", 0, nil, nil},
		{long(5000), "", -1, nil, spans(long(5000), "")},
	} {
		y := begin(t, example(t), 8)
		wantScan(t, y, x.from, x.to, x.most, x.want)
		wantReads(t, y, of(nil, x.read))
	}
}

// Own changes hide what the space has, and stand among its pairs; each of them counts.
func TestP17_3ScanOwn(t *testing.T) {
	own := changes(puts("", "0"), drops("a"), puts("ab", "5"), drops("b"), puts("c", "6"), puts("d", ""), drops("dd"), puts("z", "7"))
	// What is seen: the empty key 0, ab 5, c 6, d of nothing, e of nothing, z 7.
	for _, x := range []struct {
		from, to string
		most     int
		want     []api.Pair
		read     []api.Span
	}{
		{"", "", -1, pairs("", "0", "ab", "5", "c", "6", "d", "", "e", "", "z", "7"), spans("", "")},
		{"", "", 7, pairs("", "0", "ab", "5", "c", "6", "d", "", "e", "", "z", "7"), spans("", "")},
		{"", "", math.MaxInt, pairs("", "0", "ab", "5", "c", "6", "d", "", "e", "", "z", "7"), spans("", "")},
		{"", "", math.MaxInt - 7, pairs("", "0", "ab", "5", "c", "6", "d", "", "e", "", "z", "7"), spans("", "")},
		{"", "", math.MinInt, pairs("", "0", "ab", "5", "c", "6", "d", "", "e", "", "z", "7"), spans("", "")},
		{"", "", -8, pairs("", "0", "ab", "5", "c", "6", "d", "", "e", "", "z", "7"), spans("", "")},
		{"", "", -7, pairs("", "0", "ab", "5", "c", "6", "d", "", "e", "", "z", "7"), spans("", "")},
		{"", "", 6, pairs("", "0", "ab", "5", "c", "6", "d", "", "e", "", "z", "7"), spans("", "z\x00")},
		{"", "", 5, pairs("", "0", "ab", "5", "c", "6", "d", "", "e", ""), spans("", "e\x00")},
		{"", "", 4, pairs("", "0", "ab", "5", "c", "6", "d", ""), spans("", "d\x00")},
		{"", "", 1, pairs("", "0"), spans("", "\x00")},
		{"", "", 0, nil, nil},
		{"a", "c", -1, pairs("ab", "5"), spans("a", "c")},
		{"a", "c", 1, pairs("ab", "5"), spans("a", "ab\x00")},
		{"a", "c", 2, pairs("ab", "5"), spans("a", "c")},
		{"b", "c", 1, nil, spans("b", "c")},
		{"b", "c\x00", 1, pairs("c", "6"), spans("b", "c\x00")},
		{"d", "e", -1, pairs("d", ""), spans("d", "e")},
		{"d\x00", "e", 1, nil, spans("d\x00", "e")},
		{"dd", "", 1, pairs("e", ""), spans("dd", "e\x00")},
		{"e\x00", "", 1, pairs("z", "7"), spans("e\x00", "z\x00")},
		{"e\x00", "z", 1, nil, spans("e\x00", "z")},
		{"z", "a", -1, nil, nil},
		{"z", "z", -1, nil, nil},
	} {
		y := begin(t, example(t), 8)
		wantRestore(t, "own", y, own, api.OK)
		wantScan(t, y, x.from, x.to, x.most, x.want)
		wantReads(t, y, of(nil, x.read))
		wantChanges(t, y, own)
	}
}

// However many pairs own changes hide, as many others are told.
func TestP17_3ScanHidden(t *testing.T) {
	s := space.New()
	apply(t, s, 1, numberedPuts(200)...)
	all := numbered(200)
	for _, gone := range []int{1, 2, 63, 64} {
		x := begin(t, s, 1)
		for _, key := range all[:gone] {
			wantDrop(t, x, key, api.OK)
		}
		for _, most := range []int{1, 2, 64, 136, 137} {
			l, err := x.Scan("k", "l", most)
			want := all[gone:min(gone+most, 200)]
			if err != api.OK || !slices.EqualFunc(l, want, func(p api.Pair, key string) bool { return p == api.Pair{Key: key, Val: "1"} }) {
				t.Errorf("%d gone: Scan of %d: %v, %d, want %v, 0", gone, most, l, err, want)
			}
		}
	}
}

func TestP17_3ScanReads(t *testing.T) {
	x := begin(t, example(t), 8)
	wantGet(t, x, "b", "2", api.OK)
	wantGet(t, x, "d", "", api.ErrNone)
	wantScan(t, x, "a", "", 2, pairs("a", "4", "b", "2"))
	wantReads(t, x, of(keys("d"), spans("a", "b\x00")))
	wantScan(t, x, "b\x00", "", 1, pairs("c", "3"))
	wantReads(t, x, of(keys("d"), spans("a", "c\x00")))
	wantScan(t, x, "e", "", -1, pairs("e", ""))
	wantReads(t, x, of(keys("d"), spans("a", "c\x00", "e", "")))
	wantScan(t, x, "c", "e", -1, pairs("c", "3"))
	wantReads(t, x, of(nil, spans("a", "")))
}

func TestP17_3ScanOld(t *testing.T) {
	s := example(t)
	x := begin(t, s, 5)
	wantScan(t, x, "b", "d", -1, pairs("b", "2", "c", "3"))
	wantPut(t, x, "own", "1", api.OK)
	vacuum(t, s, 5)
	wantScan(t, x, "b", "", -1, pairs("b", "2", "c", "3", "own", "1"))
	vacuum(t, s, 6)
	for _, most := range []int{-1, 0, 1, math.MaxInt} {
		wantNoScan(t, x, "", "", most, api.ErrOld)
		wantNoScan(t, x, "own", "own\x00", most, api.ErrOld)
		wantNoScan(t, x, "c", "b", most, api.ErrOld)
	}
	wantReads(t, x, of(nil, spans("b", "")))
	wantEnd(t, x, api.OK)
	wantNoScan(t, x, "b", "c", -1, api.ErrDone)
	wantNoScan(t, x, "b", "c", 0, api.ErrDone)
}

func TestP17_3ScanFull(t *testing.T) {
	s := example(t)
	x := begin(t, s, 8)
	full := of(keys("b"), readSpans(t, x, 64))
	wantGet(t, x, "b", "2", api.OK)
	wantPut(t, x, "own", "1", api.OK)
	for _, most := range []int{-1, 1, 2, math.MaxInt} {
		wantNoScan(t, x, "a", "c", most, api.ErrFull)
		wantNoScan(t, x, "z", "", most, api.ErrFull)
		wantNoScan(t, x, "own", "own\x00", most, api.ErrFull)
	}
	wantReads(t, x, full)
	// Of nothing there is nothing to be read.
	wantScan(t, x, "a", "c", 0, nil)
	wantScan(t, x, "c", "a", -1, nil)
	wantScan(t, x, "c", "c", 1, nil)
	wantScan(t, x, "k120m", "k120mm", -1, nil)
	wantReads(t, x, full)
	wantScan(t, x, "k120n", "k121m", -1, nil)
	wantScan(t, x, "a", "c", -1, pairs("a", "4", "b", "2"))
	joined := append(spans("a", "c"), full.Spans[:20]...)
	joined = append(append(joined, spans("k120m", "k121n")...), full.Spans[22:]...)
	wantReads(t, x, of(nil, joined))
	wantNoScan(t, x, "e", "f", -1, api.ErrFull)
	apply(t, s, 9)
	vacuum(t, s, 9)
	wantNoScan(t, x, "e", "f", -1, api.ErrOld)
}
