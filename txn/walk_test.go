package txn_test

import (
	"slices"
	"strings"
	"testing"

	"ambry/api"
	"ambry/reads"
	"ambry/space"
	"ambry/txn"
)

// dice are numbers that look thrown, and are the same ones each time.
type dice uint64

// below tells a number from 0 on, below n.
func (d *dice) below(n int) int {
	*d = *d*6364136223846793005 + 1442695040888963407
	return int((uint64(*d) >> 33) % uint64(n))
}

// key tells one of some keys that are close to one another.
func (d *dice) key() string {
	return []string{"", "\x00", "a", "a\x00", "aa", "ab", "b", "b\x00", "b\x00\x00", "c", "d", "\x7f", "\x80", "\xff", "\xff\xff"}[d.below(15)]
}

// change tells a change of some key.
func (d *dice) change() api.Change {
	if d.below(3) == 0 {
		return drops(d.key())
	}
	return puts(d.key(), strings.Repeat(string(rune('a'+d.below(26))), d.below(4)))
}

// changes are changes of some keys, rising.
func (d *dice) changes(most int) []api.Change {
	l := changes()
	for range d.below(most + 1) {
		l = with(l, d.change())
	}
	return l
}

// with tells rising changes with one more, or another one of its key.
func with(l []api.Change, c api.Change) []api.Change {
	l = slices.DeleteFunc(slices.Clone(l), func(x api.Change) bool { return x.Key == c.Key })
	at := slices.IndexFunc(l, func(x api.Change) bool { return x.Key > c.Key })
	if at < 0 {
		at = len(l)
	}
	return slices.Insert(l, at, c)
}

// plain is a transaction as the chapter's words have it: what the space had at its time, and what was done there since.
type plain struct {
	time  int
	was   []api.Pair
	since []api.Change
	own   []api.Change
	read  api.Reads
	ended bool
}

// pairs tells what is seen of a range's keys.
func (p *plain) pairs(from, to string) []api.Pair {
	var all []api.Change
	for _, x := range p.was {
		all = with(all, puts(x.Key, x.Val))
	}
	for _, c := range p.own {
		all = with(all, c)
	}
	var l []api.Pair
	for _, c := range all {
		if !c.Del && c.Key >= from && (to == "" || c.Key < to) {
			l = append(l, api.Pair{Key: c.Key, Val: c.Val})
		}
	}
	return l
}

// changed tells whether a key is one of its changes.
func (p *plain) changed(key string) bool {
	return slices.ContainsFunc(p.own, func(c api.Change) bool { return c.Key == key })
}

// meets tells whether changes are of what was read, or of its own keys.
func (p *plain) meets(l []api.Change) bool {
	return slices.ContainsFunc(l, func(c api.Change) bool { return p.changed(c.Key) || reads.Covers(p.read, c.Key) })
}

// get tells what a key is seen to have, and reads it.
func (p *plain) get(key string) (string, api.Errno) {
	if !p.changed(key) {
		p.read, _ = reads.Key(p.read, key)
	}
	if l := p.pairs(key, key+"\x00"); len(l) > 0 {
		return l[0].Val, api.OK
	}
	return "", api.ErrNone
}

// scan tells the first pairs that are seen, and reads what was gone through for them.
func (p *plain) scan(from, to string, most int) []api.Pair {
	l := p.pairs(from, to)
	switch {
	case most == 0:
		return nil
	case most > 0 && len(l) >= most:
		l = l[:most]
		to = l[most-1].Key + "\x00"
	}
	p.read, _ = reads.Span(p.read, from, to)
	return l
}

// couple is a transaction and a plain one that are to be alike.
type couple struct {
	x *txn.Txn
	p *plain
}

// beginBoth tells a couple at a time that is kept.
func beginBoth(t *testing.T, d *dice, s *space.Space, past map[int][]api.Change) couple {
	t.Helper()
	time := s.Mark() + d.below(s.Last()-s.Mark()+1)
	p := &plain{time: time}
	p.was, _ = s.Scan("", "", time, -1)
	for since := time + 1; since <= s.Last(); since++ {
		p.since = append(p.since, past[since]...)
	}
	return couple{begin(t, s, time), p}
}

// do does something by a couple, and looks at what comes of it.
func (c couple) do(t *testing.T, d *dice, mark int) {
	t.Helper()
	own, old := c.p.own, c.p.time < mark
	key, to, most := d.key(), d.key(), d.below(6)-1
	if d.below(4) == 0 {
		to = ""
	}
	switch d.below(8) {
	case 0, 1:
		if old && !c.p.changed(key) {
			wantGet(t, c.x, key, "", api.ErrOld)
			return
		}
		val, err := c.p.get(key)
		wantGet(t, c.x, key, val, err)
	case 2, 3:
		if old {
			wantNoScan(t, c.x, key, to, most, api.ErrOld)
			return
		}
		wantScan(t, c.x, key, to, most, c.p.scan(key, to, most))
	case 4, 5, 6:
		change := d.change()
		if change.Del {
			wantDrop(t, c.x, change.Key, api.OK)
		} else {
			wantPut(t, c.x, change.Key, change.Val, api.OK)
		}
		c.p.own = with(own, change)
	case 7:
		c.p.own = d.changes(6)
		wantRestore(t, "walk", c.x, c.p.own, api.OK)
	}
}

// wantAlike looks at all that a couple tells without reading.
func (c couple) wantAlike(t *testing.T, d *dice) {
	t.Helper()
	wantReads(t, c.x, c.p.read)
	wantChanges(t, c.x, c.p.own)
	l := d.changes(3)
	wantMeets(t, c.x, l, c.p.meets(l))
	if c.x.Time() != c.p.time || c.x.Ended() != c.p.ended {
		t.Errorf("Time %d, Ended %t, want %d, %t", c.x.Time(), c.x.Ended(), c.p.time, c.p.ended)
	}
}

// wantEnded looks at calls that nothing comes of any more.
func (c couple) wantEnded(t *testing.T, d *dice) {
	t.Helper()
	wantGet(t, c.x, d.key(), "", api.ErrDone)
	wantNoScan(t, c.x, d.key(), d.key(), d.below(4)-1, api.ErrDone)
	wantPut(t, c.x, d.key(), "1", api.ErrDone)
	wantDrop(t, c.x, d.key(), api.ErrDone)
	wantRestore(t, "ended", c.x, d.changes(3), api.ErrDone)
	wantEnd(t, c.x, api.ErrDone)
}

// Long rows of calls on some transactions over one space, which goes on besides.
func TestP17Walk(t *testing.T) {
	d := dice(17)
	for range 60 {
		s, past := space.New(), map[int][]api.Change{}
		var all []couple
		for range 150 {
			switch n := d.below(20); {
			case n == 0:
				vacuum(t, s, s.Mark()+d.below(s.Last()-s.Mark()+1)/2)
			case n < 4:
				time, l := s.Last()+1+d.below(2), d.changes(3)
				apply(t, s, time, l...)
				past[time] = l
				for _, c := range all {
					c.p.since = append(c.p.since, l...)
				}
			case n < 7 && len(all) < 6:
				all = append(all, beginBoth(t, &d, s, past))
			case n < 9 && len(all) > 0:
				c := all[d.below(len(all))]
				if !c.p.ended {
					wantEnd(t, c.x, api.OK)
					c.p.ended = true
				}
				c.wantEnded(t, &d)
			default:
				for _, c := range all {
					if !c.p.ended {
						c.do(t, &d, s.Mark())
					}
				}
			}
			for _, c := range all {
				c.wantAlike(t, &d)
				// A vacuum may take away what tells that an older one is stale.
				if c.p.time >= s.Mark() {
					wantStale(t, c.x, c.p.meets(c.p.since))
				}
			}
		}
	}
}

// Stale behind Apply is Meets, or Stale ahead, whatever was read and changed.
func TestP17_5Meets(t *testing.T) {
	d := dice(5)
	stale := 0
	for range 400 {
		s := space.New()
		apply(t, s, 1, d.changes(8)...)
		c := couple{begin(t, s, 1), &plain{time: 1}}
		c.p.was, _ = s.Scan("", "", 1, -1)
		for time := 2; time < 10; time++ {
			if d.below(3) == 0 {
				c.do(t, &d, 0)
			}
			l := d.changes(2)
			want := c.x.Stale() || c.x.Meets(l)
			apply(t, s, time, l...)
			wantStale(t, c.x, want)
			if want {
				stale++
			}
		}
	}
	if stale < 400 || stale > 2800 {
		t.Errorf("%d of 3200 were stale", stale)
	}
}

// deed is something that a transaction read, and how it was answered, beside the changes that it had.
type deed struct {
	own      []api.Change
	scan     bool
	from, to string
	most     int
	pairs    []api.Pair
	val      string
	err      api.Errno
}

// see does a deed by a transaction, and tells it with the answer.
func (e deed) see(t *testing.T, x *txn.Txn) deed {
	t.Helper()
	wantRestore(t, "own", x, e.own, api.OK)
	if e.scan {
		e.pairs, e.err = x.Scan(e.from, e.to, e.most)
	} else {
		e.val, e.err = x.Get(e.from)
	}
	return e
}

// deed tells something to be read.
func (d *dice) deed() deed {
	e := deed{own: d.changes(4), scan: d.below(2) == 0, from: d.key(), to: d.key(), most: d.below(5) - 1}
	if e.to < e.from {
		e.to = e.from + "\x00"
	}
	return e
}

// wantSeenAgain looks at whether a transaction at the last time sees all that was seen.
func wantSeenAgain(t *testing.T, s *space.Space, l []deed) {
	t.Helper()
	y := begin(t, s, s.Last())
	for _, e := range l {
		if got := e.see(t, y); !slices.Equal(got.pairs, e.pairs) || got.val != e.val || got.err != e.err {
			t.Errorf("at %d: %v, want %v, as it was seen", s.Last(), got, e)
		}
	}
}

// A transaction that is not stale would see at the last time what it saw.
func TestP17_9Serial(t *testing.T) {
	d := dice(9)
	seen := 0
	for range 1500 {
		s := space.New()
		apply(t, s, 1, d.changes(8)...)
		x := begin(t, s, 1)
		var l []deed
		for range 1 + d.below(4) {
			l = append(l, d.deed().see(t, x))
		}
		wantRestore(t, "own", x, d.changes(2), api.OK)
		for time := 2; time < 8; time++ {
			apply(t, s, time, d.changes(2)...)
			vacuum(t, s, max(s.Mark(), d.below(2)))
			if x.Stale() {
				break
			}
			wantSeenAgain(t, s, l)
			seen++
		}
	}
	if seen < 500 {
		t.Errorf("%d times nothing was stale", seen)
	}
}
