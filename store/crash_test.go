package store_test

import (
	"slices"
	"strconv"
	"testing"

	"ambry/api"
	"ambry/block"
	"ambry/store"
)

// dice are numbers by a short rule.
type dice uint32

// below tells a number from 0 on, and below n.
func (s *dice) below(n int) int {
	*s = *s*1664525 + 1013904223
	return int(*s>>8) % n
}

// some tells a row of numbers that are below n, each or not.
func (s *dice) some(n int) []int {
	var l []int
	for i := range n {
		if s.below(2) == 0 {
			l = append(l, i)
		}
	}
	return l
}

// upTo tells the numbers from 0 on that are below n, but for one.
func upTo(n, but int) []int {
	var l []int
	for i := range n {
		if i != but {
			l = append(l, i)
		}
	}
	return l
}

// keeps tells which rows of n pending writes are to be kept, one way after the other: all that there are of few; of many none, all, the first ones, all but one, and some.
func keeps(n int) [][]int {
	var l [][]int
	if n <= 5 {
		for mask := range 1 << n {
			var keep []int
			for i := range n {
				if mask>>i&1 == 1 {
					keep = append(keep, i)
				}
			}
			l = append(l, keep)
		}
		return l
	}
	s := dice(n)
	l = append(l, nil, upTo(n, -1))
	for range 6 {
		l = append(l, upTo(n, s.below(n)), upTo(s.below(n), -1), s.some(n))
	}
	return l
}

// fate is what may be found behind a crash: what there was, with the records that are sure, and some of those behind; or what a checkpoint was to lead to.
type fate struct {
	was  want
	more []string
	next *want
}

// found looks at a store that was found: it tells what it is to have had, and whether that is what a checkpoint was to lead to.
func (f fate) found(t *testing.T, s *store.Store) (want, bool) {
	t.Helper()
	if f.next != nil && f.next.is(s) == "" {
		return *f.next, true
	}
	w := f.was
	for n := range len(f.more) + 1 {
		w.records = slices.Concat(f.was.records, f.more[:n])
		if w.is(s) == "" {
			return w, false
		}
	}
	t.Fatalf("found %.100q, Last %d, Mark %d; want %.100q, and of %.100q", s.Records(), s.Last(), s.Mark(), f.was.records, f.more)
	return want{}, false
}

// after tells the pairs that changes lead to.
func after(l []api.Pair, changes []api.Change) []api.Pair {
	l = slices.Clone(l)
	for _, c := range changes {
		l = slices.DeleteFunc(l, func(p api.Pair) bool { return p.Key == c.Key })
		if !c.Del {
			l = append(l, api.Pair{Key: c.Key, Val: c.Val})
		}
	}
	slices.SortFunc(l, func(a, b api.Pair) int {
		if a.Key < b.Key {
			return -1
		}
		return 1
	})
	return l
}

// deed is a call on a store: a checkpoint, if it has a time; else a sync, or a record that is appended.
type deed struct {
	time    int
	changes []api.Change
	sync    bool
	record  string
}

// call does a deed.
func (a deed) call(s *store.Store) api.Errno {
	switch {
	case a.time > 0:
		return s.Checkpoint(a.changes, a.time, a.time-1)
	case a.sync:
		return s.Sync()
	}
	return s.Append(a.record)
}

// behind tells what may be found behind a deed, that was done or that the disk died in.
func (f fate) behind(a deed, err api.Errno) fate {
	switch {
	case a.time > 0:
		next := want{pairs: after(f.was.pairs, a.changes), last: a.time, mark: a.time - 1}
		if err == api.OK {
			return fate{was: next}
		}
		f.next = &next
	case a.sync && err == api.OK:
		f.was.records, f.more = slices.Concat(f.was.records, f.more), nil
	case !a.sync && err == api.OK:
		f.more = append(slices.Clone(f.more), a.record)
	}
	return f
}

// ends goes through all ends of a row of deeds on a disk: wherever it dies, and whatever stays then. It hands on the disk behind the crash, and what may be found.
func ends(t *testing.T, d *block.Disk, was want, row []deed, do func(d *block.Disk, f fate)) {
	t.Helper()
	for fuse := 0; ; fuse++ {
		c, f := d.Copy(), fate{was: was}
		s := open(t, c)
		wantErr(t, "Arm", c.Arm(fuse), api.OK)
		for _, a := range row {
			err := a.call(s)
			if f = f.behind(a, err); c.Dead() != (err == api.ErrDown) {
				t.Fatalf("fuse %d: Err %d, dead: %v", fuse, err, c.Dead())
			}
			if err == api.ErrDown {
				break
			}
			wantErr(t, "a deed", err, api.OK)
		}
		for _, keep := range keeps(c.Pending()) {
			e := c.Copy()
			wantErr(t, "Crash", e.Crash(keep), api.OK)
			do(e, f)
		}
		if !c.Dead() {
			return
		}
	}
}

// story is a row of deeds of all kinds.
func story() []deed {
	return []deed{
		{record: "a"}, {record: x("b", 200)}, {sync: true}, {record: "c"}, {record: x("d", 150)},
		{time: 3, changes: append(puts("k", "2", "l", x("w", 200)), gone("j", "none")...)},
		{record: "e"}, {record: "f"}, {sync: true}, {record: "g"}, {sync: true}, {record: "h"},
		{time: 4}, {record: "i"},
		{time: 5, changes: puts("k", "3", "m", x("w", 200), "n", x("w", 200), "o", x("w", 200), "p", x("w", 200))},
		{record: x("j", 300)}, {record: "k"},
		{time: 6, changes: append(gone("k", "l", "m", "n", "o", "p", "h"), puts("z", "1")...)},
		{sync: true}, {record: "l"}, {record: ""},
	}
}

// begun tells a disk that has a store with some pairs and records, and what it has.
func begun(t *testing.T) (*block.Disk, want) {
	t.Helper()
	d := formatted(t, 80)
	s := open(t, d)
	wantErr(t, "Checkpoint", s.Checkpoint(puts("j", "1", "k", "1", "h", x("v", 200)), 2, 1), api.OK)
	wantErr(t, "Append", s.Append("0"), api.OK)
	wantErr(t, "Sync", s.Sync(), api.OK)
	return d, want{pairs: pairs("h", x("v", 200), "j", "1", "k", "1"), records: []string{"0"}, last: 2, mark: 1}
}

// Wherever the disk dies, and whatever stays: what was synced, or led to by a checkpoint, is found; opened and crashed again the same; and what is synced behind it comes behind it.
func TestP12_6Crash(t *testing.T) {
	d, has := begun(t)
	sorts, n := map[string]int{}, 0 // how many records of those that were not sure were found; but of what a checkpoint was to lead to
	ends(t, d, has, story(), func(e *block.Disk, f fate) {
		w, next := f.found(t, open(t, e))
		switch n++; {
		case next:
			sorts["new"]++
		case f.next != nil:
			sorts["old, "+strconv.Itoa(len(w.records)-len(f.was.records))]++
		default:
			sorts[strconv.Itoa(len(w.records)-len(f.was.records))]++
		}
		for range 2 {
			w.hold(t, open(t, e), 80)
			wantErr(t, "Crash", e.Crash(upTo(9, -1)), api.OK)
		}
		s := open(t, e)
		for _, record := range []string{"new", x("newer", 30), ""} {
			if s.Room() < slotsOf(record) {
				break
			}
			wantErr(t, "Append", s.Append(record), api.OK)
			w.records = append(slices.Clone(w.records), record)
		}
		wantErr(t, "Sync", s.Sync(), api.OK)
		wantErr(t, "Crash", e.Crash(nil), api.OK)
		w.hold(t, open(t, e), 80)
		s = open(t, e)
		wantErr(t, "Checkpoint", s.Checkpoint(puts("k", "9"), 99, 99), api.OK)
		wantErr(t, "Crash", e.Crash(nil), api.OK)
		want{pairs: after(w.pairs, puts("k", "9")), last: 99, mark: 99}.hold(t, open(t, e), 80)
	})
	for _, sort := range []string{"0", "1", "2", "old, 0", "old, 1", "old, 2", "new"} {
		if sorts[sort] == 0 {
			t.Errorf("no end of the sort %s", sort)
		}
	}
	if n < 1500 {
		t.Errorf("%d ends tell little", n)
	}
}

// Crash behind crash, each within another row of deeds: all ends of some, of which one is gone on from.
func TestP12_7Again(t *testing.T) {
	for seed := range 6 {
		s := dice(seed)
		d, has := begun(t)
		for round := range 10 {
			type end struct {
				d *block.Disk
				w want
			}
			var l []end
			time := has.last + 1
			row := []deed{{record: x("r", 1+s.below(250))}, {record: strconv.Itoa(round)}, {sync: s.below(2) == 0, record: "s"},
				{time: time, changes: append(puts(string(rune('a'+s.below(9))), x("v", s.below(200))), gone(string(rune('a'+s.below(9))))...)}, {record: strconv.Itoa(-round)}}
			row = row[s.below(4):]
			if has.last > 0 && open(t, d).Room() < 8 {
				row = []deed{{time: time}}
			}
			ends(t, d, has, row, func(e *block.Disk, f fate) {
				w, _ := f.found(t, open(t, e))
				wantErr(t, "Crash", e.Crash(nil), api.OK)
				w.hold(t, open(t, e), 80)
				l = append(l, end{e, w})
			})
			from := l[s.below(len(l))]
			d, has = from.d, from.w
		}
	}
}

// Wherever a Format dies, over a store: that store is there, or the empty one; nothing that it had once.
func TestP12_1Dies(t *testing.T) {
	l, has := elderStores(t)
	for i, d := range l {
		elder, empty := 0, 0
		for fuse := 0; ; fuse++ {
			c := d.Copy()
			wantErr(t, "Arm", c.Arm(fuse), api.OK)
			err := store.Format(c)
			if c.Dead() != (err == api.ErrDown) {
				t.Fatalf("fuse %d: Err %d, dead: %v", fuse, err, c.Dead())
			}
			for _, keep := range keeps(c.Pending()) {
				e := c.Copy()
				wantErr(t, "Crash", e.Crash(keep), api.OK)
				if err == api.OK || (want{}).is(open(t, e)) == "" {
					want{}.hold(t, open(t, e), 64)
					empty++
				} else {
					has[i].hold(t, open(t, e), 64)
					elder++
				}
				wantErr(t, "Format again", store.Format(e), api.OK)
				want{}.hold(t, open(t, e), 64)
			}
			if err == api.OK {
				break
			}
		}
		if elder == 0 || empty < 2 {
			t.Errorf("%d ends with the elder store, %d with the empty one", elder, empty)
		}
	}
	for fuse := range 4 {
		for mask := range 4 {
			d := newDisk(t, 64)
			wantErr(t, "Arm", d.Arm(fuse), api.OK)
			err := store.Format(d)
			if (err == api.OK) != (fuse == 3) {
				t.Fatalf("fuse %d: Err %d", fuse, err)
			}
			wantErr(t, "Crash", d.Crash([][]int{nil, {0}, {1}, {0, 1}}[mask]), api.OK)
			s, err := store.Open(d)
			if err != api.OK && (fuse == 3 || err != api.ErrFormat) {
				t.Fatalf("Open: Err %d", err)
			}
			if err == api.OK {
				want{}.hold(t, s, 64)
			}
		}
	}
}
