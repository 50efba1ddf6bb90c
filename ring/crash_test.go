package ring_test

import (
	"slices"
	"strconv"
	"testing"

	"ambry/api"
	"ambry/block"
	"ambry/ring"
)

// story is what a region's records have come to, crash behind crash.
type story struct {
	t           *testing.T
	d           *block.Disk
	from, count int
	start       int      // by which the ring is opened
	epoch       int      // likewise
	sure        []string // the records that were synced, or found
	writer      int      // the epoch by which was written last
	no          int      // how many records there have been: each has a label of its own
}

// found opens the region twice, and looks whether just the records that are to be there are.
func (s *story) found() *ring.Ring {
	s.t.Helper()
	r := open(s.t, s.d, s.from, s.count, s.start, s.epoch)
	now := r.Epoch()
	want{s.start, now, s.count, s.sure}.hold(s.t, r)
	want{s.start, now, s.count, s.sure}.hold(s.t, open(s.t, s.d, s.from, s.count, s.start, s.epoch))
	if now < s.writer {
		s.t.Errorf("Epoch %d, below %d, by which was written", now, s.writer)
	}
	s.writer = now
	return r
}

// label tells the next record, of n slots.
func (s *story) label(n int) string {
	s.no++
	return long("<"+strconv.Itoa(s.no)+">", n)
}

// loses crashes the disk behind appended records, the writes of which are all that is pending, and reckons what is sure then: those ahead of the first slot that was lost.
func (s *story) loses(appended []string, keep []int) {
	s.d.Crash(keep)
	next := 0
	for _, record := range appended {
		for range slotsOf(record) {
			if !slices.Contains(keep, next) {
				return
			}
			next++
		}
		s.sure = append(s.sure, record)
	}
}

// subset tells the numbers whose bits are set in a word.
func subset(word int) []int {
	var l []int
	for i := range 8 {
		if word>>i&1 == 1 {
			l = append(l, i)
		}
	}
	return l
}

// goOn appends records of all sizes that it is given, loses whatever of them can be lost, opens anew, and goes on from each of these ends.
func (s story) goOn(sizes [][]int, rounds int) {
	if rounds == 0 || s.t.Failed() {
		return
	}
	for _, row := range sizes {
		for word := range 1 << total(row) {
			b := s
			b.d, b.sure = s.d.Copy(), slices.Clone(s.sure)
			r := open(b.t, b.d, b.from, b.count, b.start, b.epoch)
			appended := b.appendRow(r, row)
			b.loses(appended, subset(word))
			b.found()
			b.goOn(sizes, rounds-1)
		}
	}
}

// appendRow appends as many records of these sizes as there is room for.
func (s *story) appendRow(r *ring.Ring, row []int) []string {
	var appended []string
	for _, n := range row {
		record := s.label(n)
		if r.Append(record) != api.OK {
			break
		}
		appended = append(appended, record)
	}
	return appended
}

// total tells how many slots a row has.
func total(row []int) int {
	n := 0
	for _, size := range row {
		n += size
	}
	return n
}

// In a small region, all ends of three crashes, one behind the other: what is found is just what was found, and what was appended since up to the first slot that was lost; twice the same; and nothing that was lost comes back.
func TestP6_5AllCrashes(t *testing.T) {
	for _, start := range []int{0, 3} {
		s := story{t: t, d: newDisk(t, 6), from: 1, count: 4, start: start}
		s.goOn([][]int{{1, 1, 1, 1}, {2, 1}, {1, 2}, {3}}, 2)
		s.goOn([][]int{{1, 1}, {2, 1}, {1, 2}}, 3)
	}
}

// Of what was synced all is found, whatever is kept of what was appended since.
func TestP6_5Synced(t *testing.T) {
	for split := range 5 {
		for word := range 1 << (4 - split) {
			s := story{t: t, d: newDisk(t, 4), count: 4, start: 2}
			r := s.found()
			s.sure = s.appendRow(r, slices.Repeat([]int{1}, split))
			wantErr(t, "Sync", r.Sync(), api.OK)
			appended := s.appendRow(r, slices.Repeat([]int{1}, 4-split))
			s.loses(appended, subset(word))
			s.found()
		}
	}
}

// Long rows of appends, syncs, crashes and truncates: the ring goes round and round, and is found as it is to be.
func TestP6_5Walk(t *testing.T) {
	rounds := 0
	for seed := range 40 {
		dice := dice(seed + 1000)
		count := 2 + dice.below(8)
		s := &story{t: t, d: newDisk(t, count+2), from: dice.below(3), count: count, start: dice.below(20)}
		first := s.start
		for range 150 {
			s.walk(&dice)
		}
		rounds += (s.start - first) / count
	}
	if rounds < 400 {
		t.Errorf("only %d rounds", rounds)
	}
}

// walk opens the ring, lets the records ahead go, appends and syncs, and crashes.
func (s *story) walk(dice *dice) {
	s.t.Helper()
	r := s.found()
	if dice.below(3) == 0 {
		s.truncate(dice, r)
	}
	for range dice.below(3) {
		s.sure = append(s.sure, s.appendRow(r, []int{1 + dice.below(3), 1 + dice.below(2)})...)
		wantErr(s.t, "Sync", r.Sync(), api.OK)
	}
	appended := s.appendRow(r, []int{1 + dice.below(3), 1 + dice.below(2), 1 + dice.below(2)})
	s.loses(appended, dice.some(s.d.Pending()))
}

// truncate lets some records go. With all gone no slot tells how new what stands at the start must be, so that the ring's epoch is what to open it by.
func (s *story) truncate(dice *dice, r *ring.Ring) {
	gone := dice.below(len(s.sure) + 1)
	seq := s.start
	for _, record := range s.sure[:gone] {
		seq += slotsOf(record)
	}
	wantErr(s.t, "Truncate", r.Truncate(seq), api.OK)
	s.start, s.sure = seq, slices.Clone(s.sure[gone:])
	if len(s.sure) == 0 {
		s.epoch = r.Epoch()
	}
}

// The second of two records alone was kept; it is found behind nothing that is appended since.
func TestP6_7NoGhost(t *testing.T) {
	for _, again := range []bool{false, true} {
		s := story{t: t, d: newDisk(t, 4), count: 4}
		r := s.found()
		s.appendRow(r, []int{1, 1})
		s.d.Crash([]int{1})
		if again {
			s.found()
		}
		r = s.found()
		if r.Epoch() != 2 {
			t.Errorf("Epoch %d, want 2: a slot that is lost counts, too", r.Epoch())
		}
		s.sure = s.appendRow(r, []int{1})
		wantErr(t, "Sync", r.Sync(), api.OK)
		s.d.Crash(nil)
		s.found()
	}
}

// A record of two slots, of which the first was lost, or the second, is not made whole by what is appended since.
func TestP6_7NoHalfGhost(t *testing.T) {
	for old := range 2 {
		for now := range 2 {
			s := story{t: t, d: newDisk(t, 4), count: 4}
			r := s.found()
			s.appendRow(r, []int{2, 1})
			s.d.Crash([]int{old, 2})
			r = s.found()
			s.appendRow(r, []int{2})
			s.d.Crash([]int{now})
			r = s.found()
			s.sure = s.appendRow(r, []int{1})
			wantErr(t, "Sync", r.Sync(), api.OK)
			s.d.Crash(nil)
			s.found()
		}
	}
}
