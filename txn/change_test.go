package txn_test

import (
	"slices"
	"testing"

	"ambry/api"
	"ambry/space"
	"ambry/txn"
)

func TestP17_4Put(t *testing.T) {
	x := begin(t, example(t), 8)
	wantPut(t, x, "b", "1", api.OK)
	wantPut(t, x, "", "", api.OK)
	wantPut(t, x, "b", "2", api.OK)
	wantDrop(t, x, "a", api.OK)
	wantDrop(t, x, "a", api.OK)
	wantDrop(t, x, "zz", api.OK)
	wantChanges(t, x, changes(puts("", ""), drops("a"), puts("b", "2"), drops("zz")))
	wantDrop(t, x, "b", api.OK)
	wantPut(t, x, "a", "", api.OK)
	wantChanges(t, x, changes(puts("", ""), puts("a", ""), drops("b"), drops("zz")))
	wantReads(t, x, api.Reads{})
}

func TestP17_4Kept(t *testing.T) {
	x := begin(t, space.New(), 0)
	wantPut(t, x, long(120), long(199), api.OK)
	wantDrop(t, x, long(119), api.OK)
	was := changes(drops(long(119)), puts(long(120), long(199)))
	for _, size := range []int{121, 128, 129, 256, 5000} {
		wantPut(t, x, long(size), "", api.ErrArg)
		wantDrop(t, x, long(size), api.ErrArg)
	}
	for _, size := range []int{200, 201, 256, 5000} {
		wantPut(t, x, "", long(size), api.ErrArg)
		wantPut(t, x, long(120), long(size), api.ErrArg)
	}
	wantChanges(t, x, was)
	wantDrop(t, x, long(120), api.OK)
	wantChanges(t, x, changes(drops(long(119)), drops(long(120))))
}

func TestP17_4Full(t *testing.T) {
	x := begin(t, space.New(), 0)
	all := numbered(64)
	for i, key := range all {
		if i%2 == 0 {
			wantPut(t, x, key, "1", api.OK)
		} else {
			wantDrop(t, x, key, api.OK)
		}
	}
	was := x.Changes()
	for _, key := range []string{"", "k", "k1000", "z", long(120)} {
		wantPut(t, x, key, "1", api.ErrFull)
		wantDrop(t, x, key, api.ErrFull)
		wantPut(t, x, key, long(200), api.ErrArg)
	}
	wantPut(t, x, long(121), "", api.ErrArg)
	wantDrop(t, x, long(121), api.ErrArg)
	wantChanges(t, x, was)
	for i, key := range all {
		if i%2 != 0 {
			wantPut(t, x, key, "1", api.OK)
		} else {
			wantDrop(t, x, key, api.OK)
		}
		was[i] = api.Change{Key: key, Val: []string{"", "1"}[i%2], Del: i%2 == 0}
	}
	wantChanges(t, x, was)
	wantRestore(t, "fewer", x, was[1:], api.OK)
	wantPut(t, x, "z", "1", api.OK)
	wantPut(t, x, "zz", "1", api.ErrFull)
}

func TestP17_4Restore(t *testing.T) {
	x := begin(t, example(t), 8)
	wantGet(t, x, "c", "3", api.OK)
	wantScan(t, x, "a", "b", -1, pairs("a", "4"))
	read := x.Reads()
	wantPut(t, x, "z", "1", api.OK)
	for name, l := range map[string][]api.Change{
		"nothing":       nil,
		"an empty list": changes(),
		"the empty key": changes(puts("", "")),
		"a key gone":    changes(drops("a")),
		"some":          changes(puts("", "1"), drops("\x00"), puts("a", ""), puts("a\x00", "2"), drops("b"), drops("\xff")),
		"the greatest":  changes(puts(long(119), long(199)), puts(long(120), long(199))),
		"MaxBatch":      numberedPuts(64),
	} {
		wantRestore(t, name, x, l, api.OK)
		wantChanges(t, x, l)
		wantReads(t, x, read)
		wantRestore(t, name, x, x.Changes(), api.OK)
		wantChanges(t, x, l)
	}
	wantRestore(t, "own", x, changes(puts("b", "own"), drops("c")), api.OK)
	wantGet(t, x, "b", "own", api.OK)
	wantGet(t, x, "c", "", api.ErrNone)
	wantScan(t, x, "", "", -1, pairs("a", "4", "b", "own", "e", ""))
	wantRestore(t, "nothing", x, nil, api.OK)
	wantScan(t, x, "", "", -1, pairs("a", "4", "b", "2", "c", "3", "e", ""))
}

// wrongChanges are lists that no transaction's changes may be.
func wrongChanges() map[string][]api.Change {
	gone := api.Change{Key: "a", Val: "1", Del: true}
	return map[string][]api.Change{
		"a key twice":                changes(puts("a", "1"), puts("a", "1")),
		"a key twice, gone":          changes(puts("a", "1"), drops("a")),
		"the empty key twice":        changes(puts("", "1"), drops("")),
		"keys fall":                  changes(puts("b", "1"), puts("a", "1")),
		"the last keys fall":         changes(puts("a", "1"), puts("c", "1"), puts("b", "1")),
		"the first keys fall":        changes(puts("b", "1"), puts("a", "1"), puts("c", "1")),
		"the empty key behind":       changes(puts("a", "1"), puts("", "1")),
		"a longer key ahead":         changes(puts("aa", "1"), puts("a", "1")),
		"keys of high bytes fall":    changes(puts("\xff", "1"), puts("\x7f", "1")),
		"gone with a value":          changes(gone),
		"gone with a value, behind":  changes(drops(""), gone),
		"gone with a value, ahead":   changes(gone, drops("b")),
		"a key too long":             changes(puts(long(121), "1")),
		"a key too long, gone":       changes(drops(long(121))),
		"a key much too long":        changes(puts("a", "1"), drops(long(5000))),
		"a value too long":           changes(puts("a", long(200))),
		"a value too long, behind":   changes(drops("a"), puts("b", long(201))),
		"more than MaxBatch":         numberedPuts(65),
		"more than MaxBatch, gone":   append(numberedPuts(64), drops("z")),
		"much more than MaxBatch":    numberedPuts(800),
		"MaxBatch, the last one bad": append(numberedPuts(63), drops("a")),
	}
}

func TestP17_4RestoreRefused(t *testing.T) {
	x := begin(t, example(t), 8)
	wantScan(t, x, "b", "d", 1, pairs("b", "2"))
	wantPut(t, x, "a", "own", api.OK)
	wantDrop(t, x, "y", api.OK)
	was, read := x.Changes(), x.Reads()
	for name, l := range wrongChanges() {
		wantRestore(t, name, x, l, api.ErrArg)
		wantChanges(t, x, was)
		wantReads(t, x, read)
		wantGet(t, x, "a", "own", api.OK)
	}
	wantEnd(t, x, api.OK)
	for name, l := range wrongChanges() {
		wantRestore(t, name, x, l, api.ErrDone)
	}
}

// wantBetween looks at whether each way of changing a key comes between a transaction that something was done by, ended or not.
func wantBetween(t *testing.T, deed func(x *txn.Txn), key string, want bool) {
	t.Helper()
	for _, end := range []bool{false, true} {
		for _, c := range changes(puts(key, ""), puts(key, "1"), drops(key)) {
			s := example(t)
			x := begin(t, s, 8)
			deed(x)
			if end {
				wantEnd(t, x, api.OK)
			}
			wantStale(t, x, false)
			wantMeets(t, x, changes(c), want)
			wantMeets(t, x, changes(puts("bb", "1"), c), want)
			wantMeets(t, x, changes(c, puts("bb", "1")), want)
			apply(t, s, 9, c)
			wantStale(t, x, want)
		}
	}
}

func TestP17_5StaleRead(t *testing.T) {
	read := func(x *txn.Txn) {
		wantGet(t, x, "a", "4", api.OK)
		wantGet(t, x, "zz", "", api.ErrNone)
		wantScan(t, x, "c", "e", -1, pairs("c", "3"))
	}
	for key, want := range map[string]bool{
		"": false, "\x00": false, "a": true, "a\x00": false, "b": false, "b\xff": false, "c": true, "c\x00": true, "d": true, "dz": true,
		"e": false, "z": false, "zz": true, "zz\x00": false, "zzz": false,
	} {
		wantBetween(t, read, key, want)
	}
}

func TestP17_5StaleOwn(t *testing.T) {
	change := func(x *txn.Txn) {
		wantRestore(t, "own", x, changes(puts("", ""), puts("b", "1"), drops("d")), api.OK)
	}
	for key, want := range map[string]bool{
		"": true, "\x00": false, "a": false, "b": true, "b\x00": false, "ba": false, "bb\x00": false, "c": false, "d": true, "d\x00": false, "\xff": false,
	} {
		wantBetween(t, change, key, want)
	}
}

// A transaction that began at a time is stale by what came since, not by what was there.
func TestP17_5StaleSince(t *testing.T) {
	s := example(t)
	for time, want := range map[int]bool{0: true, 1: true, 2: true, 4: true, 5: true, 7: true, 8: false} {
		x := begin(t, s, time)
		wantStale(t, x, false)
		wantPut(t, x, "a", "1", api.OK)
		wantStale(t, x, want)
		wantRestore(t, "nothing", x, nil, api.OK)
		wantStale(t, x, false)
		x.Scan("a", "b", -1)
		wantStale(t, x, want)
		y := begin(t, s, time)
		y.Get("a")
		wantStale(t, y, want)
	}
	x := begin(t, s, 2)
	wantPut(t, x, "c", "1", api.OK)
	wantGet(t, x, "d", "", api.ErrNone)
	wantStale(t, x, false)
	wantMeets(t, x, nil, false)
	wantMeets(t, x, changes(), false)
	// Each of many own keys counts.
	for i, key := range numbered(64) {
		s := space.New()
		x := begin(t, s, 0)
		wantRestore(t, "many", x, numberedPuts(64), api.OK)
		apply(t, s, i+1, puts(key, "1"))
		wantStale(t, x, true)
		wantMeets(t, x, changes(drops(key)), true)
	}
}

func TestP17_6End(t *testing.T) {
	s := example(t)
	x := begin(t, s, 5)
	wantGet(t, x, "c", "3", api.OK)
	wantScan(t, x, "d", "f", -1, nil)
	wantPut(t, x, "b", "own", api.OK)
	wantDrop(t, x, "a", api.OK)
	read, own := x.Reads(), x.Changes()
	if x.Ended() {
		t.Errorf("has ended ahead of End")
	}
	wantEnd(t, x, api.OK)
	for range 2 {
		wantEnd(t, x, api.ErrDone)
		for _, key := range []string{"", "a", "b", "c", "zz", long(5000)} {
			wantGet(t, x, key, "", api.ErrDone)
			wantPut(t, x, key, "1", api.ErrDone)
			wantPut(t, x, key, long(5000), api.ErrDone)
			wantDrop(t, x, key, api.ErrDone)
			for _, most := range []int{-1, 0, 1} {
				wantNoScan(t, x, key, "", most, api.ErrDone)
				wantNoScan(t, x, key, key, most, api.ErrDone)
			}
		}
		wantRestore(t, "nothing", x, nil, api.ErrDone)
		wantRestore(t, "own", x, own, api.ErrDone)
		wantReads(t, x, read)
		wantChanges(t, x, own)
		wantStale(t, x, true)
		wantMeets(t, x, changes(puts("e", "")), true)
		wantMeets(t, x, changes(puts("f", "")), false)
		if !x.Ended() || x.Time() != 5 || !x.Over(s) {
			t.Errorf("ended: Ended %t, Time %d, Over %t, want true, 5, true", x.Ended(), x.Time(), x.Over(s))
		}
		vacuum(t, s, 8)
	}
}

func TestP17_6Over(t *testing.T) {
	s := example(t)
	x := begin(t, s, 8)
	for _, other := range []*space.Space{nil, {}, space.New(), s.Copy(), example(t)} {
		if x.Over(other) {
			t.Errorf("is over another space: %v", other.Items())
		}
	}
	apply(t, s, 9, puts("a", "1"))
	vacuum(t, s, 9)
	if !x.Over(s) || x.Time() != 8 {
		t.Errorf("Over %t, Time %d, want true, 8", x.Over(s), x.Time())
	}
	if y := begin(t, s.Copy(), 9); y.Over(s) || y.Time() != 9 {
		t.Errorf("over a copy: Over %t, Time %d, want false, 9", y.Over(s), y.Time())
	}
}

func TestP17_6Rising(t *testing.T) {
	x := begin(t, space.New(), 0)
	want := []string{"", "\x00", "a", "a\x00", "aa", "b", "\x7f", "\x80", "\xff", "\xff\xff"}
	for i := range want {
		key := want[i*7%len(want)]
		wantPut(t, x, key, key+"1", api.OK)
	}
	slices.Sort(want)
	if l := x.Changes(); !slices.EqualFunc(l, want, func(c api.Change, key string) bool { return c == puts(key, key+"1") }) {
		t.Errorf("Changes: %v, want those of %q", l, want)
	}
}

// What is put is seen by who puts it, and by nobody else; what another one ends, or changes, is its own.
func TestP17_7Own(t *testing.T) {
	s := example(t)
	was := s.Items()
	x, y := begin(t, s, 8), begin(t, s, 8)
	wantPut(t, x, "b", "own", api.OK)
	wantDrop(t, x, "c", api.OK)
	wantPut(t, x, "z", "new", api.OK)
	wantPut(t, y, "z", "other", api.OK)
	wantGet(t, x, "b", "own", api.OK)
	wantGet(t, x, "c", "", api.ErrNone)
	wantGet(t, x, "z", "new", api.OK)
	wantScan(t, x, "b", "", -1, pairs("b", "own", "e", "", "z", "new"))
	wantGet(t, y, "b", "2", api.OK)
	wantGet(t, y, "c", "3", api.OK)
	wantGet(t, y, "z", "other", api.OK)
	wantScan(t, y, "b", "", -1, pairs("b", "2", "c", "3", "e", "", "z", "other"))
	wantScan(t, begin(t, s, 8), "b", "", -1, pairs("b", "2", "c", "3", "e", ""))
	wantEnd(t, x, api.OK)
	wantGet(t, y, "b", "2", api.OK)
	wantPut(t, y, "b", "3", api.OK)
	wantChanges(t, y, changes(puts("b", "3"), puts("z", "other")))
	wantStale(t, y, false)
	wantEnd(t, y, api.OK)
	if !slices.EqualFunc(s.Items(), was, func(a, b api.Item) bool { return a.Key == b.Key && slices.Equal(a.Versions, b.Versions) }) || s.Last() != 8 || s.Mark() != 0 {
		t.Errorf("the space was changed to %v, %d, %d", s.Items(), s.Last(), s.Mark())
	}
}

func TestP17_8Still(t *testing.T) {
	s := example(t)
	x := begin(t, s, 6)
	wantPut(t, x, "d", "own", api.OK)
	for time := 9; time < 20; time++ {
		wantGet(t, x, "a", "", api.ErrNone)
		wantGet(t, x, "b", "2", api.OK)
		wantGet(t, x, "d", "own", api.OK)
		wantScan(t, x, "", "", -1, pairs("b", "2", "c", "3", "d", "own"))
		wantScan(t, x, "", "", 2, pairs("b", "2", "c", "3"))
		apply(t, s, time, drops("b"), puts("c", "later"), puts("d", "later"), puts("new", "later"))
		vacuum(t, s, min(time-8, 6))
	}
}

// spoil writes over all that lists have, and over what room there is behind.
func spoil(p []api.Pair, c []api.Change, r api.Reads) {
	for i := range p[:cap(p)] {
		p[:cap(p)][i] = api.Pair{Key: "spoilt", Val: "spoilt"}
	}
	for i := range c[:cap(c)] {
		c[:cap(c)][i] = puts("spoilt", "spoilt")
	}
	for i := range r.Keys[:cap(r.Keys)] {
		r.Keys[:cap(r.Keys)][i] = "spoilt"
	}
	for i := range r.Spans[:cap(r.Spans)] {
		r.Spans[:cap(r.Spans)][i] = api.Span{From: "spoilt", To: "spoilt"}
	}
}

// What is answered shares nothing with the transaction, with its space, nor with another answer.
func TestP17Apart(t *testing.T) {
	s := example(t)
	x := begin(t, s, 8)
	own := changes(drops("a"), puts("d", "1"), puts("f", "2"))
	wantRestore(t, "own", x, own, api.OK)
	readKeys(t, x, keys("g", "h", "i"))
	want := pairs("b", "2", "c", "3", "d", "1", "e", "", "f", "2")
	for most := range 7 {
		l, _ := x.Scan("a", "g", most)
		again, _ := x.Scan("a", "g", most)
		c, read := x.Changes(), x.Reads()
		spoil(l, c, read)
		if !slices.Equal(again, want[:min(most, 5)]) {
			t.Errorf("another answer of %d was spoilt: %v", most, again)
		}
		wantScan(t, x, "a", "g", most, want[:min(most, 5)])
		wantChanges(t, x, own)
	}
	wantReads(t, x, of(keys("g", "h", "i"), spans("a", "g")))
	wantGet(t, x, "j", "", api.ErrNone)
	wantReads(t, x, of(keys("g", "h", "i", "j"), spans("a", "g")))
	wantScan(t, begin(t, s, 8), "", "", -1, pairs("a", "4", "b", "2", "c", "3", "e", ""))
}

// What is handed in is neither changed nor kept, what stands behind its end neither.
func TestP17ApartHanded(t *testing.T) {
	x := begin(t, example(t), 8)
	roomy := changes(puts("a", "1"), drops("b"), puts("c", "3"), puts("behind", "1"))
	was := slices.Clone(roomy)
	wantRestore(t, "roomy", x, roomy[:3], api.OK)
	wantMeets(t, x, roomy[2:3], true)
	wantMeets(t, x, roomy[3:], false)
	wantPut(t, x, "a", "2", api.OK)
	wantPut(t, x, "b", "2", api.OK)
	wantPut(t, x, "d", "2", api.OK)
	if !slices.Equal(roomy, was) {
		t.Errorf("%v was changed to %v", was, roomy)
	}
	spoil(nil, roomy, api.Reads{})
	wantChanges(t, x, changes(puts("a", "2"), puts("b", "2"), puts("c", "3"), puts("d", "2")))
	for name, l := range wrongChanges() {
		roomy := append(slices.Clone(l), puts("behind", "1"))
		wantRestore(t, name, x, roomy[:len(l)], api.ErrArg)
		if !slices.Equal(roomy, append(slices.Clone(l), puts("behind", "1"))) {
			t.Errorf("%s: %v was changed to %v", name, l, roomy)
		}
	}
}
