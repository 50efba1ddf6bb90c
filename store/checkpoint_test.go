package store_test

import (
	"math"
	"slices"
	"strconv"
	"testing"

	"ambry/api"
	"ambry/block"
	"ambry/page"
	"ambry/pager"
	"ambry/store"
	"ambry/super"
	"ambry/tree"
)

// filled tells a disk of 64 sectors, its store, and what this has.
func filled(t *testing.T) (*block.Disk, *store.Store, want) {
	t.Helper()
	d := formatted(t, 64)
	s := open(t, d)
	wantErr(t, "Checkpoint", s.Checkpoint(puts("a", "1", "b", "2", "c", "3"), 7, 3), api.OK)
	wantErr(t, "Append", s.Append("r"), api.OK)
	wantErr(t, "Append", s.Append(x("q", 109)), api.OK)
	return d, s, want{pairs: pairs("a", "1", "b", "2", "c", "3"), records: []string{"r", x("q", 109)}, last: 7, mark: 3}
}

// wantRefused looks at a checkpoint that is refused ahead of all that it would do: the disk is not written, nor flushed.
func wantRefused(t *testing.T, d *block.Disk, s *store.Store, has want, l []api.Change, last, mark int) {
	t.Helper()
	pending := d.Pending()
	wantErr(t, "Arm", d.Arm(0), api.OK)
	wantErr(t, "Checkpoint", s.Checkpoint(l, last, mark), api.ErrArg)
	if d.Dead() || d.Pending() != pending {
		t.Fatal("a refused Checkpoint wrote, or flushed")
	}
	wantErr(t, "Arm", d.Arm(-1), api.OK)
	has.hold(t, s, d.Size())
	has.hold(t, open(t, d), d.Size())
}

func TestP12_4WrongTimes(t *testing.T) {
	d, s, has := filled(t)
	for _, last := range []int{math.MinInt, -1, 0, 5, 6, 1<<60 + 1, math.MaxInt} {
		for _, mark := range []int{0, 3, last} {
			wantRefused(t, d, s, has, nil, last, mark)
			wantRefused(t, d, s, has, puts("a", "2"), last, mark)
		}
	}
	for _, last := range []int{7, 8, 1 << 60} {
		for _, mark := range []int{math.MinInt, -1, 0, 2, last + 1, math.MaxInt} {
			wantRefused(t, d, s, has, nil, last, mark)
		}
	}
	kill(t, d)
	wantErr(t, "Checkpoint of a dead disk", s.Checkpoint(nil, 6, 3), api.ErrArg)
	wantErr(t, "Checkpoint of a dead disk", s.Checkpoint(nil, 7, 3), api.ErrDown)
}

func TestP12_4WrongChanges(t *testing.T) {
	d, s, has := filled(t)
	for _, wrong := range []api.Change{
		{Key: x("k", 129)},
		{Key: x("k", 129), Val: "1"},
		{Key: x("k", 129), Del: true},
		{Key: x("k", 5000), Val: "1"},
		{Key: "a", Val: x("v", 201)},
		{Key: "a", Val: x("v", 5000)},
		{Key: "a", Val: x("v", 201), Del: true},
		{Key: x("k", 129), Val: x("v", 201)},
	} {
		wantRefused(t, d, s, has, []api.Change{wrong}, 9, 9)
		wantRefused(t, d, s, has, append(puts("x", "1"), wrong), 9, 9)
		wantRefused(t, d, s, has, append(append(gone("a"), wrong), puts("x", "1")...), 9, 9)
	}
	kill(t, d)
	wantErr(t, "Checkpoint of a dead disk", s.Checkpoint(puts(x("k", 129), ""), 9, 9), api.ErrArg)
}

// Keys and values of all lengths that may be, and times at their edges, are taken.
func TestP12_4Edges(t *testing.T) {
	d, s, _ := filled(t)
	wantErr(t, "Checkpoint", s.Checkpoint(puts(x("k", 128), x("v", 200), "", ""), 7, 3), api.OK)
	all := pairs("", "", "a", "1", "b", "2", "c", "3", x("k", 128), x("v", 200))
	want{pairs: all, last: 7, mark: 3}.hold(t, s, 64)
	// a key that is gone may have a value that could be kept
	l := []api.Change{{Key: "", Val: x("v", 200), Del: true}, {Key: x("k", 128), Del: true}, {Key: x("j", 128), Del: true}}
	wantErr(t, "Checkpoint", s.Checkpoint(l, 7, 7), api.OK)
	want{pairs: all[1:4], last: 7, mark: 7}.hold(t, s, 64)
	wantErr(t, "Checkpoint", s.Checkpoint(nil, 1<<60, 7), api.OK)
	wantErr(t, "Checkpoint", s.Checkpoint(nil, 1<<60, 1<<60), api.OK)
	want{pairs: all[1:4], last: 1 << 60, mark: 1 << 60}.hold(t, s, 64)
	want{pairs: all[1:4], last: 1 << 60, mark: 1 << 60}.hold(t, open(t, d), 64)
	wantErr(t, "Checkpoint", s.Checkpoint(nil, 1<<60, 1<<60), api.OK)
}

// Changes are done in order: the last one of a key counts.
func TestP12_4InOrder(t *testing.T) {
	for _, c := range []struct {
		l    []api.Change
		want []api.Pair
	}{
		{nil, pairs("a", "1", "b", "2", "c", "3")},
		{puts("a", "4", "a", "5"), pairs("a", "5", "b", "2", "c", "3")},
		{append(puts("a", "4"), gone("a")...), pairs("b", "2", "c", "3")},
		{append(gone("a"), puts("a", "4")...), pairs("a", "4", "b", "2", "c", "3")},
		{gone("x", "b", "b", "", "zz"), pairs("a", "1", "c", "3")},
		{gone("a", "b", "c"), nil},
		{append(gone("a", "b", "c", "d"), puts("d", "1")...), pairs("d", "1")},
	} {
		d, s, _ := filled(t)
		wantErr(t, "Checkpoint", s.Checkpoint(c.l, 8, 4), api.OK)
		if d.Pending() != 0 {
			t.Error("not all is flushed")
		}
		wantErr(t, "Crash", d.Crash(nil), api.OK)
		want{pairs: c.want, last: 8, mark: 4}.hold(t, s, 64)
		want{pairs: c.want, last: 8, mark: 4}.hold(t, open(t, d), 64)
	}
}

// What is handed in is not changed, nor what stands behind it.
func TestP12_4ArgumentStays(t *testing.T) {
	_, s, _ := filled(t)
	l := append(puts("x", "1", "w", "2"), gone("a", "none")...)
	was := slices.Clone(l)
	wantErr(t, "Checkpoint", s.Checkpoint(l[:2], 8, 4), api.OK)
	wantErr(t, "Checkpoint", s.Checkpoint(l, 8, 4), api.OK)
	if !slices.Equal(l, was) {
		t.Errorf("the changes are %v", l)
	}
	clear(l)
	want{pairs: pairs("b", "2", "c", "3", "w", "2", "x", "1"), last: 8, mark: 4}.hold(t, s, 64)
}

// The super is that of the new root, of the journal's next as start, of its epoch, of both times; the pages are a tree of it.
func TestP12_4Super(t *testing.T) {
	d := formatted(t, 64)
	begin := findSuper(t, d)
	next, epoch, used := 0, begin.Epoch, 0
	for i := range 40 {
		s := open(t, d)
		epoch++
		for n := range i % 4 {
			wantErr(t, "Append", s.Append(x("r", 108*n+1)), api.OK)
			next += n + 1
			used = epoch
		}
		wantErr(t, "Checkpoint", s.Checkpoint(puts("k", strconv.Itoa(i)), i, i/2), api.OK)
		got := findSuper(t, d)
		if want := (api.Super{Gen: i + 1, Root: got.Root, Start: next, Epoch: epoch, Last: i, Mark: i / 2}); got != want {
			t.Fatalf("the super is %+v, want %+v (an epoch %d was used)", got, want, used)
		}
		var b []byte
		for k := range 8 {
			sector, _ := d.Read(2 + 16 + 8*got.Root + k)
			b = append(b, sector...)
		}
		if n, err := page.Read(b); err != api.OK || len(n.Keys) != 1 || n.Vals[0] != strconv.Itoa(i) {
			t.Fatalf("the root's page has %+v, %d", n, err)
		}
	}
}

// Behind a checkpoint there is all of the journal's room, and what is appended is found.
func TestP12_4JournalBeginsAnew(t *testing.T) {
	d := formatted(t, 67)
	s := open(t, d)
	for i := range 30 {
		for s.Room() > 0 {
			wantErr(t, "Append", s.Append(strconv.Itoa(i)), api.OK)
		}
		wantErr(t, "Append without room", s.Append(""), api.ErrLog)
		has := want{records: slices.Repeat([]string{strconv.Itoa(i)}, 16), last: i, mark: i}
		if i > 0 {
			has.last, has.mark = i-1, i-1
		}
		has.hold(t, s, 67)
		has.hold(t, open(t, d), 67)
		wantErr(t, "Checkpoint", s.Checkpoint(nil, i, i), api.OK)
		want{last: i, mark: i}.hold(t, s, 67)
		want{last: i, mark: i}.hold(t, open(t, d), 67)
		if i%3 == 0 {
			s = open(t, d)
		}
	}
}

// shadow is a tree by itself, of as many pages as a store has.
type shadow struct {
	pager *pager.Pager
	tree  *tree.Tree
}

// newShadow tells an empty tree of n pages.
func newShadow(t *testing.T, n int) *shadow {
	t.Helper()
	p, err := pager.New(newDisk(t, 8*n), 0, n)
	wantErr(t, "New", err, api.OK)
	x, err := tree.Open(p, -1)
	wantErr(t, "Open", err, api.OK)
	return &shadow{pager: p, tree: x}
}

// do does one change.
func (h *shadow) do(c api.Change) api.Errno {
	if !c.Del {
		return h.tree.Put(c.Key, c.Val)
	}
	if _, err := h.tree.Get(c.Key); err == api.ErrNone {
		return api.OK
	}
	return h.tree.Drop(c.Key)
}

// checkpoint does changes as a checkpoint is to: all of them, or none.
func (h *shadow) checkpoint(l []api.Change) api.Errno {
	elder := h.tree.Root()
	for _, c := range l {
		if err := h.do(c); err != api.OK {
			h.pager.Undo()
			h.tree, _ = tree.Open(h.pager, elder)
			return err
		}
	}
	h.pager.Settle()
	return api.OK
}

// many tells changes that put n keys, with long values.
func many(n int) []api.Change {
	var l []api.Change
	for i := range n {
		l = append(l, api.Change{Key: strconv.Itoa(1000 + i), Val: x("w", 200)})
	}
	return l
}

// There are as many pages as there is room for, and no more.
func TestP12_4NoRoom(t *testing.T) {
	for _, c := range []struct{ n, pages int }{{64, 5}, {65, 5}, {66, 6}, {67, 6}, {68, 6}, {69, 6}, {74, 6}, {75, 6}, {76, 6}, {77, 7}, {100, 9}, {400, 37}} {
		edges := 0
		for k := 1; k < 6*c.pages; k++ {
			d := formatted(t, c.n)
			s := open(t, d)
			wantErr(t, "Append", s.Append("r"), api.OK)
			h := newShadow(t, c.pages)
			err := h.checkpoint(many(k))
			wantErr(t, "Checkpoint of "+strconv.Itoa(k)+" on "+strconv.Itoa(c.n), s.Checkpoint(many(k), 9, 9), err)
			if err == api.OK {
				continue
			}
			edges++
			want{records: []string{"r"}}.hold(t, s, c.n)
			want{records: []string{"r"}}.hold(t, open(t, d), c.n)
		}
		if edges == 0 {
			t.Errorf("%d sectors had room for all", c.n)
		}
	}
}

// Without room all is as it was: the pairs, the records, the times, the free pages, and what a crash leaves.
func TestP12_4NoRoomStays(t *testing.T) {
	d, s, has := filled(t)
	wantErr(t, "Sync", s.Sync(), api.OK)
	sup := findSuper(t, d)
	for range 20 {
		wantErr(t, "Checkpoint", s.Checkpoint(append(gone("a", "b"), many(60)...), 9, 9), api.ErrDisk)
		has.hold(t, s, 64)
		has.hold(t, open(t, d), 64)
		if findSuper(t, d) != sup {
			t.Fatal("there is another super")
		}
	}
	c := d.Copy()
	var odd []int
	for i := range c.Pending() {
		if i%2 == 1 {
			odd = append(odd, i)
		}
	}
	wantErr(t, "Crash", c.Crash(odd), api.OK)
	has.hold(t, open(t, c), 64)
	wantErr(t, "Append", s.Append("z"), api.OK)
	wantErr(t, "Sync", s.Sync(), api.OK)
	has.records = append(has.records, "z")
	has.hold(t, open(t, d), 64)
	wantErr(t, "Checkpoint", s.Checkpoint(many(9), 9, 9), api.OK)
	if n, err := s.Check(); n != 12 || err != api.OK || s.Last() != 9 || len(s.Records()) != 0 {
		t.Errorf("Check = %d, %d", n, err)
	}
}

// A dead disk: what needs none is as it was.
func TestP12_4Dead(t *testing.T) {
	const calls = 8 + 1 + 1 + 1 // a page's sectors, a flush, a super, a flush
	for fuse := range calls {
		d, s, has := filled(t)
		wantErr(t, "Arm", d.Arm(fuse), api.OK)
		wantErr(t, "Checkpoint that the disk dies in", s.Checkpoint(puts("a", "9"), 9, 9), api.ErrDown)
		wantErr(t, "Checkpoint again", s.Checkpoint(puts("a", "9"), 9, 9), api.ErrDown)
		wantErr(t, "Checkpoint of nothing", s.Checkpoint(nil, 9, 9), api.ErrDown)
		if !slices.Equal(s.Records(), has.records) || s.Last() != has.last || s.Mark() != has.mark || s.Room() != 13 {
			t.Errorf("fuse %d: Records %q, Last %d, Mark %d, Room %d", fuse, s.Records(), s.Last(), s.Mark(), s.Room())
		}
	}
	d, s, _ := filled(t)
	wantErr(t, "Arm", d.Arm(calls), api.OK)
	wantErr(t, "Checkpoint of one page", s.Checkpoint(puts("a", "9"), 9, 9), api.OK)
	d = formatted(t, 64)
	s = open(t, d)
	kill(t, d)
	wantErr(t, "Checkpoint of an empty tree", s.Checkpoint(puts("a", "9"), 9, 9), api.ErrDown)
}

// Behind the last Gen there is no super: all is as it was.
func TestP12_4NoGen(t *testing.T) {
	d := newDisk(t, 64)
	writeNode(t, d, 0, leaf("a"))
	writeSuper(t, d, 1, api.Super{Gen: 1<<60 - 1, Root: 0, Epoch: 1})
	s := open(t, d)
	wantErr(t, "Checkpoint", s.Checkpoint(puts("b", "b"), 1, 1), api.OK)
	wantErr(t, "Append", s.Append("r"), api.OK)
	has := want{pairs: pairs("a", "a", "b", "b"), records: []string{"r"}, last: 1, mark: 1}
	for range 20 {
		wantErr(t, "Checkpoint", s.Checkpoint(puts("c", "c", "a", "1"), 2, 2), api.ErrTime)
		has.hold(t, s, 64)
		has.hold(t, open(t, d), 64)
	}
	wantErr(t, "Checkpoint without room", s.Checkpoint(many(60), 2, 2), api.ErrDisk)
	has.hold(t, s, 64)
	if _, at, err := super.Find(d); at != 0 || err != api.OK {
		t.Error("another super")
	}
}

// By the last epoch no journal could be opened again: no super of it is saved.
func TestP12_4NoEpoch(t *testing.T) {
	d := newDisk(t, 64)
	writeSlot(t, d, 9, 1<<31-3, 7777)
	writeSuper(t, d, 0, api.Super{Root: -1, Epoch: 1})
	s := open(t, d) // writes by the last epoch but one
	wantErr(t, "Checkpoint", s.Checkpoint(puts("a", "1"), 1, 1), api.OK)
	has := want{pairs: pairs("a", "1"), last: 1, mark: 1}
	has.hold(t, open(t, d), 64)
	s = open(t, d)
	for range 20 {
		wantErr(t, "Checkpoint", s.Checkpoint(puts("a", "2"), 2, 2), api.ErrTime)
		has.hold(t, s, 64)
		has.hold(t, open(t, d), 64)
	}
}

// Behind the journal's last Seq nothing can begin: all is as it was.
func TestP12_4NoSeq(t *testing.T) {
	d := newDisk(t, 64)
	writeSuper(t, d, 0, api.Super{Root: -1, Epoch: 1, Start: 1<<60 - 1})
	s := open(t, d)
	wantErr(t, "Append", s.Append("a"), api.OK)
	wantErr(t, "Checkpoint", s.Checkpoint(puts("a", "1"), 1, 1), api.OK)
	if got := findSuper(t, d); got.Start != 1<<60 || got.Gen != 1 {
		t.Errorf("the super is %+v", got)
	}
	wantErr(t, "Append", s.Append("b"), api.OK)
	for range 20 {
		if err := s.Checkpoint(puts("a", "2"), 2, 2); err == api.OK {
			t.Fatal("a super behind the last Seq was saved")
		}
		for _, s := range []*store.Store{s, open(t, d)} {
			if wrong := (want{pairs: pairs("a", "1"), records: []string{"b"}, last: 1, mark: 1}).is(s); wrong != "" {
				t.Fatal(wrong)
			}
		}
	}
}

// However many checkpoints there are, done or refused: there is room for just as much as a tree by itself has, in as many pages.
func TestP12_8Room(t *testing.T) {
	d := formatted(t, 64)
	s := open(t, d)
	h := newShadow(t, 5)
	most := 0
	for k := 1; newShadow(t, 3).checkpoint(many(k)) == api.OK; k++ {
		most = k
	}
	done := map[api.Errno]int{}
	for i := range 600 {
		l := many(most)
		switch i % 8 {
		case 0:
			l = puts("k", strconv.Itoa(i))
		case 1:
			l = many(i / 8 % (most + 1))
		case 2:
			l = append(gone("k"), puts("j", "1")...)
		case 3:
			l = nil
		case 4:
			l = gone("j")
		case 5:
			l = many(60)
		case 6:
			l = nil
			for k := range 60 {
				l = append(l, gone(strconv.Itoa(1000+k))...)
			}
		}
		err := h.checkpoint(l)
		done[err]++
		wantErr(t, "Checkpoint", s.Checkpoint(l, i, i), err)
		if i%5 == 0 {
			s = open(t, d)
		}
	}
	if done[api.OK] < 400 || done[api.ErrDisk] < 75 {
		t.Errorf("of all checkpoints %v", done)
	}
	n, _ := h.tree.Check()
	if got, err := s.Check(); got != n || err != api.OK {
		t.Errorf("Check = %d, %d, want %d", got, err, n)
	}
}

// The pairs that there are can be written anew again and again, where there is room for them twice.
func TestP12_8Twice(t *testing.T) {
	d := formatted(t, 64)
	s := open(t, d)
	for i := range 500 {
		v := x(strconv.Itoa(i%10), 150)
		wantErr(t, "Checkpoint", s.Checkpoint(puts("a", v, "b", v, "c", v, "d", v, "e", v), i, 0), api.OK)
		want{pairs: pairs("a", v, "b", v, "c", v, "d", v, "e", v), last: i}.hold(t, s, 64)
		if i%7 == 0 {
			s = open(t, d)
		}
	}
}
