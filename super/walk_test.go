package super_test

import (
	"testing"

	"ambry/api"
	"ambry/block"
	"ambry/super"
)

// dice are numbers by a short rule.
type dice uint64

// word tells 32 bits.
func (s *dice) word() uint32 {
	*s = *s*6364136223846793005 + 1442695040888963407
	return uint32(*s >> 32)
}

// below tells a number from 0 on, and below n.
func (s *dice) below(n int) int {
	return int(s.word()) % n
}

// long tells a number from 0 to most, as often a small one as a great one.
func (s *dice) long(most int) int {
	n := int(s.word())<<32 | int(s.word())
	return n >> 1 & (1<<62 - 1) >> s.below(62) % (most + 1)
}

// right tells a right super.
func (s *dice) right() api.Super {
	last := s.long(1 << 60)
	return of(s.long(1<<60), s.below(16385)-1, s.long(1<<60), s.long(1<<31-1), last, s.long(last))
}

// bend makes one thing of a sector's another one, which may be as right.
func (s *dice) bend(r *raw) {
	switch s.below(8) {
	case 0:
		r.begin = []string{"AMBR", "AMBS", "\x00\x00\x00\x00"}[s.below(3)]
	case 1:
		r.gen ^= 1 << s.below(64)
	case 2:
		r.root ^= 1 << s.below(32)
	case 3:
		r.start ^= 1 << s.below(64)
	case 4:
		r.epoch ^= 1 << s.below(32)
	case 5:
		r.last ^= 1 << s.below(64)
	case 6:
		r.mark ^= 1 << s.below(64)
	case 7:
		r.behind = "\x00\x00\x01"[:s.below(4)]
	}
}

// subset are the numbers of a mask's bits.
func subset(mask int) []int {
	var l []int
	for i := range 16 {
		if mask>>i&1 == 1 {
			l = append(l, i)
		}
	}
	return l
}

// found is what Find told, or was to tell.
type found struct {
	super api.Super
	err   api.Errno
}

// find tells what Find tells, but for the sector.
func find(d *block.Disk) found {
	s, _, err := super.Find(d)
	return found{s, err}
}

// behind tells what a disk that has this has behind a Save of s.
func (f found) behind(s api.Super) found {
	s.Gen = 0
	if f.err == api.OK {
		s.Gen = f.super.Gen + 1
	}
	return found{s, api.OK}
}

// eachEnd goes through all ends of a Save on a disk: the fuse, and which pending writes stay. It hands on the disk behind the crash, and whether Save was done.
func eachEnd(t *testing.T, d *block.Disk, s api.Super, do func(d *block.Disk, done bool)) {
	for fuse := range 3 {
		c := d.Copy()
		ok(t, c.Arm(fuse))
		got, err := super.Save(c, s)
		want := find(d).behind(s).super
		if done := fuse == 2; done && (err != api.OK || got != want) || !done && (err != api.ErrDown || got != (api.Super{})) {
			t.Fatalf("fuse %d: Save = %+v, %d, want %+v", fuse, got, err, want)
		}
		for mask := range 1 << c.Pending() {
			e := c.Copy()
			ok(t, e.Crash(subset(mask)))
			do(e, fuse == 2)
		}
	}
}

// Whatever was written to other sectors, and stays of it: behind a crash there is what there was, or what was saved, and that if Save said so.
func TestP11_5OneSave(t *testing.T) {
	disks := [][][]byte{
		{},
		{form(gen(0, 5))},
		{[]byte("AMBR"), []byte("x")},
		{form(gen(0, 5)), form(gen(1, 6))},
		{form(gen(2, 5)), form(gen(1, 6))},
		{[]byte("x"), form(gen(7, 6))},
		{form(gen(8, 5)), []byte("x")},
		{form(gen(1<<60-2, 5)), form(gen(1<<60-1, 6))},
		{[]byte("x"), form(gen(8, 6))}, // these stand where they have no place
		{form(gen(7, 5)), form(gen(6, 6))},
		{form(gen(5, 5)), form(gen(5, 6))},
	}
	for n, l := range disks {
		d := newDisk(t, 5, l...)
		for i := range 3 {
			ok(t, d.Write(2+i, []byte("a")))
			ahead, ends := find(d), map[found]int{}
			eachEnd(t, d, gen(0, 9), func(e *block.Disk, done bool) {
				f := find(e)
				if f != ahead.behind(gen(0, 9)) && (done || f != ahead) {
					t.Fatalf("disk %d: %+v of %+v, done: %v", n, f, ahead, done)
				}
				ends[f]++
			})
			if len(ends) != 2 {
				t.Errorf("disk %d: %d ends, want two", n, len(ends))
			}
		}
	}
}

// goOn saves on each disk that a Save can leave, so many times one behind the other; it tells how many ends there were.
func goOn(t *testing.T, d *block.Disk, times int) int {
	if times == 0 {
		return 1
	}
	ahead, s, n := find(d), gen(-1, times), 0
	eachEnd(t, d, s, func(e *block.Disk, done bool) {
		f := find(e)
		if f != ahead.behind(s) && (done || f != ahead) {
			t.Fatalf("%d to go: %+v of %+v, done: %v", times, f, ahead, done)
		}
		ok(t, e.Crash(nil)) // nothing comes, or goes, by another crash
		if find(e) != f {
			t.Fatalf("%d to go: %+v behind another crash, want %+v", times, find(e), f)
		}
		n += goOn(t, e, times-1)
	})
	return n
}

func TestP11_5ManySaves(t *testing.T) {
	if n := goOn(t, newDisk(t, 2), 6); n != 4*4*4*4*4*4 {
		t.Errorf("%d ends", n)
	}
}

// plain is what the places have: a super, or none.
type plain [2]*api.Super

// find tells what Find is to tell of the places, and in which sector.
func (p plain) find() (found, int) {
	switch {
	case p[0] == nil && p[1] == nil:
		return found{err: api.ErrFormat}, 0
	case p[0] == nil, p[1] != nil && p[1].Gen > p[0].Gen:
		return found{*p[1], api.OK}, 1
	}
	return found{*p[0], api.OK}, 0
}

// walk is a disk, and what its places have: kept, and pending.
type walk struct {
	t         *testing.T
	s         dice
	disk      *block.Disk
	kept, now plain
	fuse      int
	writes    []int // which place each pending write was to
	supers    []*api.Super
}

// burn tells whether the fuse lets a write, or a flush, come.
func (w *walk) burn() bool {
	if w.fuse > 0 {
		w.fuse--
		return true
	}
	return w.fuse < 0
}

// wrote lets it be pending that a place has a super, or none.
func (w *walk) wrote(i int, s *api.Super) {
	w.now[i] = s
	w.writes, w.supers = append(w.writes, i), append(w.supers, s)
}

// crash lets the disk crash; some pending writes stay.
func (w *walk) crash() {
	mask := int(w.s.word())
	var keep []int
	for n, i := range w.writes {
		if mask>>(n%32)&1 == 1 {
			keep = append(keep, n)
			w.kept[i] = w.supers[n]
		}
	}
	ok(w.t, w.disk.Crash(keep))
	w.now, w.writes, w.supers, w.fuse = w.kept, nil, nil, -1
}

// save saves a super, and looks at the answer.
func (w *walk) save() {
	s := w.s.right()
	if w.s.below(8) == 0 {
		s.Mark = s.Last + 1
	}
	f, _ := w.now.find()
	want := f.behind(s)
	switch {
	case want.super.Gen > 1<<60:
		want.err = api.ErrTime
	case s.Mark > s.Last:
		want.err = api.ErrArg
	case !w.burn():
		want.err = api.ErrDown
	default:
		own := want.super
		w.wrote(own.Gen%2, &own)
		if !w.burn() {
			want.err = api.ErrDown
			break
		}
		w.kept, w.writes, w.supers = w.now, nil, nil
	}
	if want.err != api.OK {
		want.super = api.Super{}
	}
	if got, err := super.Save(w.disk, s); got != want.super || err != want.err {
		w.t.Fatalf("Save(%+v) = %+v, %d, want %+v, %d", s, got, err, want.super, want.err)
	}
	if want.err == api.ErrDown {
		wantNoFind(w.t, w.disk, api.ErrDown)
		w.crash()
	}
}

// put writes a super, or what is none, to one of the places, as nobody does but he who makes a disk anew.
func (w *walk) put() {
	if !w.burn() {
		w.crash()
		return
	}
	i, s := w.s.below(2), w.s.right()
	if w.s.below(3) == 0 {
		ok(w.t, w.disk.Write(i, form(s)[1:]))
		w.wrote(i, nil)
		return
	}
	if w.s.below(4) > 0 {
		s.Gen = w.s.below(6)
	} else if w.s.below(4) == 0 {
		s.Gen = 1<<60 - w.s.below(3)
	}
	ok(w.t, w.disk.Write(i, form(s)))
	w.wrote(i, &s)
}

// Long rows of calls, held against what the chapter's words say of two places.
func TestP11_2To5Walk(t *testing.T) {
	for seed := range 200 {
		w := &walk{t: t, s: dice(seed), disk: newDisk(t, 2), fuse: -1}
		for range 300 {
			switch c := w.s.below(20); {
			case c < 14:
				w.save()
			case c < 16:
				w.put()
			case c < 19:
				w.fuse = w.s.below(5) - 1
				ok(t, w.disk.Arm(w.fuse))
			default:
				w.crash()
			}
			f, at := w.now.find()
			if f.err == api.OK {
				wantFind(t, w.disk, f.super, at)
			} else {
				wantNoFind(t, w.disk, f.err)
			}
		}
	}
}
