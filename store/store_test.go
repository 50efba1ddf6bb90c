package store_test

import (
	"bytes"
	"slices"
	"strings"
	"testing"

	"ambry/api"
	"ambry/block"
	"ambry/page"
	"ambry/slot"
	"ambry/store"
	"ambry/super"
)

// wantErr looks at an error.
func wantErr(t *testing.T, what string, got, want api.Errno) {
	t.Helper()
	if got != want {
		t.Fatalf("%s: Err %d, want %d", what, got, want)
	}
}

// newDisk tells a disk of n blank sectors.
func newDisk(t *testing.T, n int) *block.Disk {
	t.Helper()
	d, err := block.New(n)
	wantErr(t, "New", err, api.OK)
	return d
}

// formatted tells a disk of n sectors that has an empty store.
func formatted(t *testing.T, n int) *block.Disk {
	t.Helper()
	d := newDisk(t, n)
	wantErr(t, "Format", store.Format(d), api.OK)
	return d
}

// open opens a disk's store.
func open(t *testing.T, d *block.Disk) *store.Store {
	t.Helper()
	s, err := store.Open(d)
	if err != api.OK || s == nil {
		t.Fatalf("Open: Err %d, want OK and a store", err)
	}
	return s
}

// wantNoOpen looks at a disk whose store can't be opened, and at that nothing was done to the disk.
func wantNoOpen(t *testing.T, d *block.Disk, want api.Errno) {
	t.Helper()
	pending := d.Pending()
	if s, err := store.Open(d); s != nil || err != want {
		t.Fatalf("Open: Err %d, a store: %v, want Err %d", err, s != nil, want)
	}
	if d.Pending() != pending {
		t.Fatal("Open wrote, or flushed")
	}
}

// kill lets a disk die.
func kill(t *testing.T, d *block.Disk) {
	t.Helper()
	wantErr(t, "Arm", d.Arm(0), api.OK)
	wantErr(t, "Flush", d.Flush(), api.ErrDown)
}

// pairs tells pairs of keys and values one behind the other.
func pairs(kv ...string) []api.Pair {
	var l []api.Pair
	for i := 0; i < len(kv); i += 2 {
		l = append(l, api.Pair{Key: kv[i], Val: kv[i+1]})
	}
	return l
}

// puts tells changes that put pairs of keys and values one behind the other.
func puts(kv ...string) []api.Change {
	var l []api.Change
	for _, pair := range pairs(kv...) {
		l = append(l, api.Change{Key: pair.Key, Val: pair.Val})
	}
	return l
}

// gone tells changes by which keys are gone.
func gone(keys ...string) []api.Change {
	var l []api.Change
	for _, key := range keys {
		l = append(l, api.Change{Key: key, Del: true})
	}
	return l
}

// x tells a text of n bytes.
func x(s string, n int) string {
	return strings.Repeat(s, n)
}

// want is what a store is to have.
type want struct {
	pairs   []api.Pair
	records []string
	last    int
	mark    int
}

// slotsOf tells how many slots a record has.
func slotsOf(record string) int {
	return max(1, (len(record)+107)/108)
}

// is tells what a store has otherwise than wanted, or nothing.
func (w want) is(s *store.Store) string {
	l, err := s.Scan("", "", -1)
	switch {
	case err != api.OK || !slices.Equal(l, w.pairs):
		return "other pairs"
	case !slices.Equal(s.Records(), w.records):
		return "other records"
	case s.Last() != w.last || s.Mark() != w.mark:
		return "other times"
	}
	if n, err := s.Check(); n != len(w.pairs) || err != api.OK {
		return "a tree that does not stand right"
	}
	return ""
}

// hold looks at all that a store of a disk of n sectors tells.
func (w want) hold(t *testing.T, s *store.Store, n int) {
	t.Helper()
	if wrong := w.is(s); wrong != "" {
		l, err := s.Scan("", "", -1)
		t.Fatalf("%s: %d pairs (Err %d), %.200q, Last %d, Mark %d; want %d, %.200q, %d, %d", wrong, len(l), err, s.Records(), s.Last(), s.Mark(), len(w.pairs), w.records, w.last, w.mark)
	}
	room := n / 4
	for _, record := range w.records {
		room -= slotsOf(record)
	}
	if s.Room() != room {
		t.Fatalf("Room %d, want %d", s.Room(), room)
	}
	for _, pair := range w.pairs {
		if v, err := s.Get(pair.Key); v != pair.Val || err != api.OK {
			t.Fatalf("Get(%q) = %q, %d, want %q", pair.Key, v, err, pair.Val)
		}
	}
}

// sectors tells what all sectors of a disk have.
func sectors(t *testing.T, d *block.Disk) [][]byte {
	t.Helper()
	var l [][]byte
	for i := range d.Size() {
		b, err := d.Read(i)
		wantErr(t, "Read", err, api.OK)
		l = append(l, b)
	}
	return l
}

// wantSectors looks at what all sectors of a disk have.
func wantSectors(t *testing.T, d *block.Disk, want [][]byte) {
	t.Helper()
	for i, b := range sectors(t, d) {
		if !bytes.Equal(b, want[i]) {
			t.Fatalf("the sector %d has %x, want %x", i, b, want[i])
		}
	}
}

// writeSuper lets a sector have a super, kept.
func writeSuper(t *testing.T, d *block.Disk, at int, s api.Super) {
	t.Helper()
	b, err := super.Bytes(s)
	wantErr(t, "Bytes of a super", err, api.OK)
	wantErr(t, "Write", d.Write(at, b), api.OK)
	wantErr(t, "Flush", d.Flush(), api.OK)
}

// writeSlot lets a sector have a slot that is a record, kept.
func writeSlot(t *testing.T, d *block.Disk, at, epoch, seq int) {
	t.Helper()
	b, err := slot.Bytes(api.Slot{Epoch: epoch, Seq: seq, First: true, Last: true, Data: "ghost"})
	wantErr(t, "Bytes of a slot", err, api.OK)
	wantErr(t, "Write", d.Write(at, b), api.OK)
	wantErr(t, "Flush", d.Flush(), api.OK)
}

// writePage lets a page have some bytes, kept.
func writePage(t *testing.T, d *block.Disk, i int, b []byte) {
	t.Helper()
	for k := range 8 {
		wantErr(t, "Write", d.Write(2+d.Size()/4+8*i+k, b[128*k:128*k+128]), api.OK)
	}
	wantErr(t, "Flush", d.Flush(), api.OK)
}

// writeNode lets a page have a node, kept.
func writeNode(t *testing.T, d *block.Disk, i int, n api.Node) {
	t.Helper()
	b, err := page.Bytes(n)
	wantErr(t, "Bytes of a node", err, api.OK)
	writePage(t, d, i, b)
}

// leaf tells a leaf of keys that have themselves as values.
func leaf(keys ...string) api.Node {
	return api.Node{Leaf: true, Keys: keys, Vals: keys}
}

// node tells a node of kids, and keys between.
func node(keys string, kids ...int) api.Node {
	return api.Node{Keys: strings.Split(keys, ""), Kids: kids}
}

// findSuper tells a disk's super.
func findSuper(t *testing.T, d *block.Disk) api.Super {
	t.Helper()
	s, _, err := super.Find(d)
	wantErr(t, "Find", err, api.OK)
	return s
}

// noDisks are those that nothing made.
func noDisks() []*block.Disk {
	return []*block.Disk{nil, {}, new(block.Disk)}
}

// noStores are those that Open did not make.
func noStores(t *testing.T) []*store.Store {
	t.Helper()
	s, err := store.Open(newDisk(t, 64))
	wantErr(t, "Open of a blank disk", err, api.ErrFormat)
	return []*store.Store{nil, {}, new(store.Store), s}
}

func TestP12OfNoStore(t *testing.T) {
	for _, s := range noStores(t) {
		wantErr(t, "Append", s.Append("a"), api.ErrNil)
		wantErr(t, "Append of too much", s.Append(x("a", 1<<14+1)), api.ErrNil)
		wantErr(t, "Sync", s.Sync(), api.ErrNil)
		wantErr(t, "Checkpoint", s.Checkpoint(puts("a", "1"), 5, 2), api.ErrNil)
		wantErr(t, "Checkpoint of what may not be", s.Checkpoint(nil, -1, 2), api.ErrNil)
		if len(s.Records()) != 0 || s.Room() != 0 || s.Last() != 0 || s.Mark() != 0 {
			t.Error("no store has something")
		}
		if v, err := s.Get("a"); v != "" || err != api.ErrNil {
			t.Errorf("Get = %q, %d", v, err)
		}
		if l, err := s.Scan("", "", -1); len(l) != 0 || err != api.ErrNil {
			t.Errorf("Scan = %v, %d", l, err)
		}
		if n, err := s.Check(); n != 0 || err != api.ErrNil {
			t.Errorf("Check = %d, %d", n, err)
		}
	}
}

// The example of the chapter.
func TestP12Example(t *testing.T) {
	d := formatted(t, 64)
	s := open(t, d)
	wantErr(t, "Append", s.Append("a"), api.OK)
	wantErr(t, "Sync", s.Sync(), api.OK)
	wantErr(t, "Append", s.Append("b"), api.OK)
	wantErr(t, "Crash", d.Crash(nil), api.OK)
	s = open(t, d)
	want{records: []string{"a"}}.hold(t, s, 64)
	wantErr(t, "Checkpoint", s.Checkpoint(puts("x", "1"), 5, 2), api.OK)
	done := want{pairs: pairs("x", "1"), last: 5, mark: 2}
	done.hold(t, s, 64)
	wantErr(t, "Crash", d.Crash(nil), api.OK)
	done.hold(t, open(t, d), 64)
}

func TestP12_1Refused(t *testing.T) {
	for _, d := range noDisks() {
		wantErr(t, "Format of no disk", store.Format(d), api.ErrNil)
	}
	for _, n := range []int{1, 2, 3, 16, 62, 63} {
		d := newDisk(t, n)
		wantErr(t, "Format of too few sectors", store.Format(d), api.ErrArg)
		if d.Pending() != 0 {
			t.Error("a refused Format wrote")
		}
		kill(t, d)
		wantErr(t, "Format of too few sectors, dead", store.Format(d), api.ErrArg)
	}
	for _, n := range []int{64, 100} {
		d := newDisk(t, n)
		kill(t, d)
		wantErr(t, "Format of a dead disk", store.Format(d), api.ErrDown)
		d = formatted(t, n)
		kill(t, d)
		wantErr(t, "Format of a dead disk with a store", store.Format(d), api.ErrDown)
	}
}

// The super stands in the sector 0, noughts in the sector 1, nothing else is written; all is kept.
func TestP12_1Sectors(t *testing.T) {
	for _, n := range []int{64, 65, 66, 67, 68, 71, 72, 100, 400, 16383, 16384} {
		d := newDisk(t, n)
		was := sectors(t, d)
		wantErr(t, "Format", store.Format(d), api.OK)
		if d.Pending() != 0 {
			t.Error("not all is flushed")
		}
		wantErr(t, "Crash", d.Crash(nil), api.OK)
		found := findSuper(t, d)
		if want := (api.Super{Root: -1, Epoch: found.Epoch}); found != want {
			t.Errorf("the super is %+v, want %+v", found, want)
		}
		was[0], _ = super.Bytes(found)
		wantSectors(t, d, was)
		want{}.hold(t, open(t, d), n)
	}
}

// What stood on the disk stays, but for the super's sectors, and counts for nothing.
func TestP12_1OverOthers(t *testing.T) {
	d := newDisk(t, 80)
	for i := range 80 {
		wantErr(t, "Write", d.Write(i, bytes.Repeat([]byte{byte(i + 1)}, 128)), api.OK)
	}
	was := sectors(t, d)
	wantErr(t, "Format", store.Format(d), api.OK)
	wantErr(t, "Crash", d.Crash(nil), api.OK)
	was[0], _ = super.Bytes(findSuper(t, d))
	was[1] = make([]byte, 128)
	wantSectors(t, d, was)
	want{}.hold(t, open(t, d), 80)
}

// The epoch is above all in the journal's part, wherever in it and of whichever Seq; others do not count.
func TestP12_1Epoch(t *testing.T) {
	for _, n := range []int{64, 67, 68, 400} {
		end := 2 + n/4
		for _, at := range []int{2, 3, end - 1} {
			for _, epoch := range []int{0, 1, 7, 1 << 20, 1<<31 - 3} {
				d := newDisk(t, n)
				writeSlot(t, d, at, epoch, 1<<60-5)
				writeSlot(t, d, 5, epoch/2, 3)
				writeSlot(t, d, end, 1<<31-1, 0)
				writeSlot(t, d, 1, 1<<31-1, 0)
				wantErr(t, "Format", store.Format(d), api.OK)
				if got := findSuper(t, d).Epoch; got <= epoch {
					t.Fatalf("the epoch is %d, not above %d", got, epoch)
				}
				want{}.hold(t, open(t, d), n)
			}
		}
	}
}

// Slots that stand where the first records are to be are none of theirs, nor of those that come behind.
func TestP12_1NoGhosts(t *testing.T) {
	d := newDisk(t, 64)
	for seq := range 16 {
		writeSlot(t, d, 2+seq, 9+seq, seq)
	}
	wantErr(t, "Format", store.Format(d), api.OK)
	want{}.hold(t, open(t, d), 64)
	s := open(t, d)
	wantErr(t, "Append", s.Append("a"), api.OK)
	want{records: []string{"a"}}.hold(t, open(t, d), 64)
	wantErr(t, "Sync", s.Sync(), api.OK)
	wantErr(t, "Crash", d.Crash(nil), api.OK)
	want{records: []string{"a"}}.hold(t, open(t, d), 64)
}

// With no epoch above that of a slot by which a journal can be opened, nothing is done.
func TestP12_1NoEpoch(t *testing.T) {
	for _, epoch := range []int{1<<31 - 2, 1<<31 - 1} {
		for _, at := range []int{2, 9, 17} {
			d := formatted(t, 64)
			s := open(t, d)
			wantErr(t, "Append", s.Append("a"), api.OK)
			wantErr(t, "Sync", s.Sync(), api.OK)
			writeSlot(t, d, at, epoch, 77)
			was := sectors(t, d)
			wantErr(t, "Write", d.Write(63, was[63]), api.OK)
			wantErr(t, "Arm", d.Arm(0), api.OK)
			wantErr(t, "Format", store.Format(d), api.ErrTime)
			if d.Pending() != 1 || d.Dead() {
				t.Error("a refused Format wrote, or flushed")
			}
			wantSectors(t, d, was)
			kill(t, d)
			wantErr(t, "Format of a dead disk", store.Format(d), api.ErrDown)
		}
	}
}

// elderStores are disks of 64 sectors with stores whose super stands in the sector 0, or 1, in turn, and what these have.
func elderStores(t *testing.T) ([]*block.Disk, []want) {
	t.Helper()
	d := formatted(t, 64)
	var l []*block.Disk
	var has []want
	w := want{}
	for i := range 4 {
		s := open(t, d)
		key := string(rune('a' + i))
		wantErr(t, "Checkpoint", s.Checkpoint(append(puts(key, "1"), gone("a")...), i+1, i), api.OK)
		w = want{pairs: append(slices.Clone(w.pairs), pairs(key, "1")...), last: i + 1, mark: i}
		w.pairs = slices.DeleteFunc(w.pairs, func(p api.Pair) bool { return p.Key == "a" })
		wantErr(t, "Append", s.Append(key), api.OK)
		wantErr(t, "Append", s.Append(x(key, 109)), api.OK)
		wantErr(t, "Sync", s.Sync(), api.OK)
		own := w
		own.records = []string{key, x(key, 109)}
		l, has = append(l, d.Copy()), append(has, own)
	}
	return l, has
}

// Of a store that there was nothing is left.
func TestP12_1OverStore(t *testing.T) {
	l, has := elderStores(t)
	for i, d := range l {
		has[i].hold(t, open(t, d), 64)
		wantErr(t, "Format", store.Format(d), api.OK)
		wantErr(t, "Crash", d.Crash(nil), api.OK)
		if found := findSuper(t, d); found.Gen != 0 || found.Root != -1 || found.Start != 0 {
			t.Errorf("the super is %+v", found)
		}
		if b, err := d.Read(1); err != api.OK || !bytes.Equal(b, make([]byte, 128)) {
			t.Errorf("the sector 1 has %x", b)
		}
		s := open(t, d)
		want{}.hold(t, s, 64)
		for n := range 16 {
			wantErr(t, "Append", s.Append("n"), api.OK)
			want{records: slices.Repeat([]string{"n"}, n+1)}.hold(t, open(t, d), 64)
		}
	}
}

func TestP12_2Refused(t *testing.T) {
	for _, d := range noDisks() {
		wantNoOpen(t, d, api.ErrNil)
	}
	for _, n := range []int{1, 2, 3, 63} {
		d := newDisk(t, n)
		wantNoOpen(t, d, api.ErrArg)
		if n > 1 {
			writeSuper(t, d, 0, api.Super{Root: -1, Epoch: 1})
			wantNoOpen(t, d, api.ErrArg)
		}
		kill(t, d)
		wantNoOpen(t, d, api.ErrArg)
	}
	for _, d := range []*block.Disk{newDisk(t, 64), formatted(t, 64)} {
		kill(t, d)
		wantNoOpen(t, d, api.ErrDown)
	}
}

// Without a super there is no store.
func TestP12_2NoSuper(t *testing.T) {
	wantNoOpen(t, newDisk(t, 64), api.ErrFormat)
	wantNoOpen(t, newDisk(t, 16384), api.ErrFormat)
	d := formatted(t, 64)
	b, _ := d.Read(0)
	b[20] ^= 1
	wantErr(t, "Write", d.Write(0, b), api.OK)
	wantNoOpen(t, d, api.ErrFormat)
	wantErr(t, "Crash", d.Crash(nil), api.OK)
	want{}.hold(t, open(t, d), 64)
}

// The greater Gen's super tells what there is.
func TestP12_2LatestSuper(t *testing.T) {
	d := newDisk(t, 64)
	writeNode(t, d, 0, leaf("a"))
	writeNode(t, d, 4, leaf("b", "c"))
	writeSuper(t, d, 0, api.Super{Gen: 6, Root: 0, Epoch: 1, Last: 3, Mark: 1})
	writeSuper(t, d, 1, api.Super{Gen: 5, Root: 4, Epoch: 1, Last: 2})
	want{pairs: pairs("a", "a"), last: 3, mark: 1}.hold(t, open(t, d), 64)
	writeSuper(t, d, 1, api.Super{Gen: 7, Root: 4, Epoch: 1, Last: 4, Mark: 4})
	want{pairs: pairs("b", "b", "c", "c"), last: 4, mark: 4}.hold(t, open(t, d), 64)
}

// craft tells a disk of 64 sectors whose super has that root, and whose pages, from 0 on, have nodes.
func craft(t *testing.T, root int, l ...api.Node) *block.Disk {
	t.Helper()
	d := newDisk(t, 64)
	for i, n := range l {
		writeNode(t, d, i, n)
	}
	writeSuper(t, d, 0, api.Super{Root: root, Epoch: 1})
	return d
}

// A root that is no tree's that stands right is no store's.
func TestP12_2NoTree(t *testing.T) {
	a, c, e := leaf("a"), leaf("c"), leaf("e")
	for what, d := range map[string]*block.Disk{
		"a root that is no page's":          craft(t, 5),
		"a root far behind all pages":       craft(t, 16383, a),
		"a page without a node":             craft(t, 0),
		"a page behind the last node":       craft(t, 2, a, c),
		"a leaf without keys":               craft(t, 0, leaf()),
		"a kid without a node":              craft(t, 2, a, c, node("c", 0, 3)),
		"a kid that is no page":             craft(t, 2, a, c, node("c", 0, 5)),
		"a kid twice":                       craft(t, 1, a, node("c", 0, 0)),
		"a root that is its own kid":        craft(t, 1, a, node("c", 0, 1)),
		"keys that stand in the wrong kid":  craft(t, 2, a, c, node("c", 1, 0)),
		"a key that is not below the one":   craft(t, 2, a, c, node("a", 0, 1)),
		"leaves that are not as deep":       craft(t, 4, a, c, e, node("c", 0, 1), node("e", 3, 2)),
		"a leaf without keys, within":       craft(t, 2, a, leaf(), node("c", 0, 1)),
		"a row of nodes that has no end":    craft(t, 0, api.Node{Kids: []int{1}}, api.Node{Kids: []int{0}}),
		"a key behind that of a node above": craft(t, 4, a, leaf("c", "f"), e, node("c", 0, 1), node("e", 3, 3)),
	} {
		if s, err := store.Open(d); s != nil || err != api.ErrFormat {
			t.Errorf("%s: Err %d, want %d", what, err, api.ErrFormat)
		}
	}
	d := craft(t, 4, a, c, leaf("e"), node("c", 0, 1), node("e", 3, 2))
	writePage(t, d, 2, slices.Concat([]byte{0x4c}, make([]byte, 1023)))
	wantNoOpen(t, d, api.ErrFormat)
}

// A tree that stands right is the store's, whichever pages it has; all others are free.
func TestP12_2Tree(t *testing.T) {
	d := craft(t, 4, leaf("a"), leaf("c"), leaf("x"), leaf("e"), node("ce", 0, 1, 3))
	has := want{pairs: pairs("a", "a", "c", "c", "e", "e")}
	has.hold(t, open(t, d), 64)
	s := open(t, d)
	// The page 2 alone is free: one leaf can be written, but not the node above it.
	wantErr(t, "Checkpoint", s.Checkpoint(puts("a", "2"), 0, 0), api.ErrDisk)
	has.hold(t, s, 64)
	d = craft(t, 4, leaf("x"), leaf("x"), leaf("x"), leaf("x"), leaf("b"))
	s = open(t, d)
	wantErr(t, "Checkpoint", s.Checkpoint(puts("c", x("v", 200), "d", x("v", 200), "e", x("v", 200), "f", x("v", 200), "g", x("v", 200)), 1, 1), api.OK)
	if n, err := s.Check(); n != 6 || err != api.OK {
		t.Errorf("Check = %d, %d", n, err)
	}
	if b, _ := d.Read(2 + 16 + 8*4); b[0] != 0x4c || b[4] != 'b' {
		t.Error("the elder root's page is written over")
	}
	want{}.hold(t, open(t, craft(t, -1)), 64)
}

// The journal counts from the super's start on, and from its epoch on.
func TestP12_2Journal(t *testing.T) {
	d := newDisk(t, 64)
	for i, epoch := range []int{3, 4, 4, 6, 5} {
		writeSlot(t, d, 2+(20+i)%16, epoch, 20+i)
	}
	ghosts := func(n int) want { return want{records: slices.Repeat([]string{"ghost"}, n)} }
	for _, c := range []struct{ start, epoch, n int }{{20, 0, 4}, {20, 3, 4}, {20, 4, 0}, {21, 4, 3}, {21, 0, 3}, {21, 5, 0}, {23, 5, 1}, {24, 5, 1}, {24, 6, 0}, {19, 0, 0}, {36, 0, 0}, {4, 0, 0}, {1 << 60, 0, 0}} {
		writeSuper(t, d, 0, api.Super{Root: -1, Start: c.start, Epoch: c.epoch})
		s := open(t, d)
		if !slices.Equal(s.Records(), ghosts(c.n).records) {
			t.Errorf("%+v: Records %q", c, s.Records())
		}
		if c.start < 1<<60 && s.Room() != 16-c.n {
			t.Errorf("%+v: Room %d", c, s.Room())
		}
	}
}

// What the journal's Open is refused by, is told; but ahead of that, that there is no tree.
func TestP12_2JournalsError(t *testing.T) {
	last := newDisk(t, 64)
	writeSlot(t, last, 17, 1<<31-1, 0)
	writeSuper(t, last, 0, api.Super{Root: -1, Epoch: 1})
	wantNoOpen(t, last, api.ErrTime)
	writeSuper(t, last, 0, api.Super{Root: 3, Epoch: 1})
	wantNoOpen(t, last, api.ErrFormat)

	above := newDisk(t, 64)
	writeSuper(t, above, 0, api.Super{Root: -1, Epoch: 1<<31 - 1})
	wantNoOpen(t, above, api.ErrArg)
	writeSuper(t, above, 0, api.Super{Root: 3, Epoch: 1<<31 - 1})
	wantNoOpen(t, above, api.ErrFormat)
	writeSuper(t, above, 0, api.Super{Root: -1, Epoch: 1<<31 - 2})
	want{}.hold(t, open(t, above), 64)
}

// Open neither writes, nor flushes, nor burns the fuse.
func TestP12_2WritesNothing(t *testing.T) {
	l, has := elderStores(t)
	d := l[3]
	s := open(t, d)
	wantErr(t, "Append", s.Append("p"), api.OK)
	was := sectors(t, d)
	wantErr(t, "Arm", d.Arm(0), api.OK)
	for range 3 {
		w := has[3]
		w.records = append(slices.Clone(w.records), "p") // what is pending is what a sector has
		w.hold(t, open(t, d), 64)
	}
	if d.Pending() != 1 || d.Dead() {
		t.Error("Open wrote, or flushed")
	}
	wantSectors(t, d, was)
	wantErr(t, "Crash", d.Crash(nil), api.OK)
	has[3].hold(t, open(t, d), 64)
}

// The journal's place is n / 4 sectors from the sector 2 on.
func TestP12_3Place(t *testing.T) {
	for _, n := range []int{64, 67, 68, 100} {
		d := formatted(t, n)
		s := open(t, d)
		was := sectors(t, d)
		for i := range n / 4 {
			wantErr(t, "Append", s.Append(x("r", 108)), api.OK)
			b, _ := d.Read(2 + i)
			if got, err := slot.Read(b); err != api.OK || got.Data != x("r", 108) || got.Seq != i {
				t.Fatalf("the sector %d has %+v, %d", 2+i, got, err)
			}
			was[2+i] = b
		}
		wantSectors(t, d, was)
		wantErr(t, "Append without room", s.Append(""), api.ErrLog)
		want{records: slices.Repeat([]string{x("r", 108)}, n/4)}.hold(t, s, n)
	}
}

func TestP12_3Records(t *testing.T) {
	d := formatted(t, 64)
	s := open(t, d)
	all := []string{"a", "", x("b", 108), x("c", 109), "\x00\xff", x("d", 500)} // 1, 1, 1, 2, 1, 5
	for i, record := range all {
		wantErr(t, "Append", s.Append(record), api.OK)
		want{records: all[:i+1]}.hold(t, s, 64)
	}
	if d.Pending() != 11 {
		t.Errorf("%d pending writes, want 11: Append does not flush", d.Pending())
	}
	wantErr(t, "Append of six slots, where five are left", s.Append(x("e", 541)), api.ErrLog)
	wantErr(t, "Append of too many bytes", s.Append(x("e", 1<<14+1)), api.ErrBig)
	want{records: all}.hold(t, s, 64)
	wantErr(t, "Sync", s.Sync(), api.OK)
	if d.Pending() != 0 {
		t.Error("Sync does not flush")
	}
	wantErr(t, "Crash", d.Crash(nil), api.OK)
	want{records: all}.hold(t, s, 64)
	want{records: all}.hold(t, open(t, d), 64)
}

func TestP12_3Dead(t *testing.T) {
	d := formatted(t, 64)
	s := open(t, d)
	wantErr(t, "Append", s.Append("a"), api.OK)
	wantErr(t, "Arm", d.Arm(1), api.OK)
	wantErr(t, "Append that the disk dies in", s.Append(x("b", 200)), api.ErrDown)
	wantErr(t, "Append", s.Append("b"), api.ErrDown)
	wantErr(t, "Append of too many bytes", s.Append(x("e", 1<<14+1)), api.ErrBig)
	wantErr(t, "Append without room", s.Append(x("e", 1<<14)), api.ErrLog)
	wantErr(t, "Sync", s.Sync(), api.ErrDown)
	if !slices.Equal(s.Records(), []string{"a"}) || s.Room() != 15 {
		t.Errorf("Records %q, Room %d", s.Records(), s.Room())
	}
	d = formatted(t, 64)
	s = open(t, d)
	wantErr(t, "Arm", d.Arm(0), api.OK)
	wantErr(t, "Sync that the disk dies in", s.Sync(), api.ErrDown)
}

// What is answered is new memory.
func TestP12_3Memory(t *testing.T) {
	d := formatted(t, 64)
	s := open(t, d)
	for _, record := range []string{"a", "b", "c"} {
		wantErr(t, "Append", s.Append(record), api.OK)
	}
	l, m := s.Records(), s.Records()
	clear(l)
	_ = append(l[:0], "x", "y")
	want{records: []string{"a", "b", "c"}}.hold(t, s, 64)
	if !slices.Equal(m, []string{"a", "b", "c"}) {
		t.Errorf("another answer has changed: %q", m)
	}
	wantErr(t, "Checkpoint", s.Checkpoint(nil, 0, 0), api.OK)
	wantErr(t, "Append", s.Append("z"), api.OK)
	if !slices.Equal(m, []string{"a", "b", "c"}) {
		t.Errorf("an answer has changed with the store: %q", m)
	}
}

// Get, Scan and Check are the tree's; Last and Mark need no disk.
func TestP12_5Tree(t *testing.T) {
	d := formatted(t, 400)
	s := open(t, d)
	l := pairs("", "0", "a", "1", "a\x00", "2", "b", "", "c", x("v", 200), x("k", 128), "6")
	var changes []api.Change
	for _, p := range l {
		changes = append(changes, api.Change{Key: p.Key, Val: p.Val})
	}
	wantErr(t, "Checkpoint", s.Checkpoint(changes, 8, 7), api.OK)
	for _, s := range []*store.Store{s, open(t, d)} {
		want{pairs: l, last: 8, mark: 7}.hold(t, s, 400)
		for _, c := range []struct {
			from, to string
			most     int
			want     []api.Pair
		}{{"", "", 0, nil}, {"", "", 2, l[:2]}, {"", "", 99, l}, {"a", "", -5, l[1:]}, {"a", "b", -1, l[1:3]}, {"a", "b", 1, l[1:2]}, {"b", "a", -1, nil}, {"z", "", -1, nil}, {"a", "a", -1, nil}} {
			if got, err := s.Scan(c.from, c.to, c.most); !slices.Equal(got, c.want) || err != api.OK {
				t.Errorf("Scan(%q, %q, %d) = %v, %d", c.from, c.to, c.most, got, err)
			}
		}
		for _, key := range []string{"A", "aa", x("k", 127), x("k", 129), x("k", 3000)} {
			if v, err := s.Get(key); v != "" || err != api.ErrNone {
				t.Errorf("Get(%.20q) = %q, %d", key, v, err)
			}
		}
	}
	kill(t, d)
	if v, err := s.Get("a"); v != "" || err != api.ErrDown {
		t.Errorf("Get = %q, %d", v, err)
	}
	if l, err := s.Scan("", "", -1); len(l) != 0 || err != api.ErrDown {
		t.Errorf("Scan = %v, %d", l, err)
	}
	if n, err := s.Check(); n != 0 || err != api.ErrDown {
		t.Errorf("Check = %d, %d", n, err)
	}
	if s.Last() != 8 || s.Mark() != 7 {
		t.Errorf("Last %d, Mark %d", s.Last(), s.Mark())
	}
}
