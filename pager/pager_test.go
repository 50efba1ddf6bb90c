package pager_test

import (
	"bytes"
	"math"
	"slices"
	"strings"
	"testing"

	"ambry/api"
	"ambry/block"
	"ambry/pager"
)

// newDisk tells a disk of n sectors.
func newDisk(t *testing.T, n int) *block.Disk {
	t.Helper()
	d, err := block.New(n)
	if err != api.OK {
		t.Fatalf("New(%d): Err %d", n, err)
	}
	return d
}

// newPager tells a pager of n pages from a sector on.
func newPager(t *testing.T, d *block.Disk, from, n int) *pager.Pager {
	t.Helper()
	p, err := pager.New(d, from, n)
	if err != api.OK || p == nil {
		t.Fatalf("New(from %d, n %d): Err %d, a pager %t; want one", from, n, err, p != nil)
	}
	return p
}

// wantErr looks at how a call was answered.
func wantErr(t *testing.T, call string, got, want api.Errno) {
	t.Helper()
	if got != want {
		t.Errorf("%s: Err %d, want %d", call, got, want)
	}
}

// wantWrite looks at a Write that is to write.
func wantWrite(t *testing.T, p *pager.Pager, s string, want int) {
	t.Helper()
	if i, err := p.Write([]byte(s)); i != want || err != api.OK {
		t.Errorf("Write(%.9q) = %d, %d, want %d, 0", s, i, err, want)
	}
}

// wantNoWrite looks at a Write that is to be refused.
func wantNoWrite(t *testing.T, p *pager.Pager, s string, want api.Errno) {
	t.Helper()
	if i, err := p.Write([]byte(s)); i != 0 || err != want {
		t.Errorf("Write(%.9q) = %d, %d, want 0, %d", s, i, err, want)
	}
}

// whole tells a page's bytes: a text, and noughts behind.
func whole(s string) []byte {
	return append([]byte(s), make([]byte, api.PageSize-len(s))...)
}

// wantRead looks at what a page has.
func wantRead(t *testing.T, p *pager.Pager, i int, s string) {
	t.Helper()
	if b, err := p.Read(i); !bytes.Equal(b, whole(s)) || err != api.OK {
		t.Errorf("Read(%d) = %.9q.. of %d bytes, %d, want %.9q and noughts, 0", i, b, len(b), err, s)
	}
}

// wantNoRead looks at a Read that is to be refused.
func wantNoRead(t *testing.T, p *pager.Pager, i int, want api.Errno) {
	t.Helper()
	if b, err := p.Read(i); len(b) != 0 || err != want {
		t.Errorf("Read(%d): %d bytes, Err %d, want none, %d", i, len(b), err, want)
	}
}

// pages is what a pager is to tell of n pages.
type pages struct {
	n                   int
	settled, fresh, old []int
}

// hold looks at all that a pager tells of its pages.
func (want pages) hold(t *testing.T, p *pager.Pager) {
	t.Helper()
	settled, fresh, old := p.Pages()
	if !slices.Equal(settled, want.settled) || !slices.Equal(fresh, want.fresh) || !slices.Equal(old, want.old) {
		t.Errorf("Pages: %v, %v, %v, want %v, %v, %v", settled, fresh, old, want.settled, want.fresh, want.old)
	}
	free := want.n - len(want.settled) - len(want.fresh) - len(want.old)
	if got := p.Free(); got != free {
		t.Errorf("Free: %d, want %d", got, free)
	}
}

// each tells a pager of five pages of a disk of its own: the page 0 is settled, 1 is fresh, 2 is old, 3 and 4 are free; and each of the first three has its number's letter.
func each(t *testing.T) (*pager.Pager, *block.Disk, pages) {
	t.Helper()
	d := newDisk(t, 43)
	p := newPager(t, d, 3, 5)
	wantWrite(t, p, "a", 0)
	wantWrite(t, p, "x", 1)
	wantWrite(t, p, "c", 2)
	wantErr(t, "Release(1)", p.Release(1), api.OK)
	wantErr(t, "Settle", p.Settle(), api.OK)
	wantErr(t, "Release(2)", p.Release(2), api.OK)
	wantWrite(t, p, "b", 1)
	want := pages{n: 5, settled: []int{0}, fresh: []int{1}, old: []int{2}}
	want.hold(t, p)
	return p, d, want
}

// die lets a disk die.
func die(t *testing.T, d *block.Disk) {
	t.Helper()
	wantErr(t, "Arm(0)", d.Arm(0), api.OK)
	wantErr(t, "Flush", d.Flush(), api.ErrDown)
}

// far are numbers that are no page's, nor may be added to without care.
var far = []int{math.MinInt, math.MinInt + 1, -1 << 60, -1 << 32, -5, -1, 5, 6, 8, 1 << 14, 1 << 32, 1 << 60, 1 << 61, 1 << 62, math.MaxInt - 7, math.MaxInt}

func TestP9Example(t *testing.T) {
	p := newPager(t, newDisk(t, 24), 0, 3)
	wantWrite(t, p, "a", 0)
	wantWrite(t, p, "b", 1)
	wantErr(t, "Settle", p.Settle(), api.OK)
	wantErr(t, "Release(0)", p.Release(0), api.OK)
	wantWrite(t, p, "c", 2)
	wantNoWrite(t, p, "d", api.ErrDisk)
	pages{n: 3, settled: []int{1}, fresh: []int{2}, old: []int{0}}.hold(t, p)
	wantErr(t, "Undo", p.Undo(), api.OK)
	pages{n: 3, settled: []int{0, 1}}.hold(t, p)
	wantWrite(t, p, "e", 2)
	wantErr(t, "Release(0)", p.Release(0), api.OK)
	wantErr(t, "Settle", p.Settle(), api.OK)
	wantWrite(t, p, "f", 0)
	pages{n: 3, settled: []int{1, 2}, fresh: []int{0}}.hold(t, p)
	wantRead(t, p, 0, "f")
	wantRead(t, p, 1, "b")
	wantRead(t, p, 2, "e")
}

func TestP9NoPager(t *testing.T) {
	for _, p := range []*pager.Pager{nil, {}} {
		wantErr(t, "Keep", p.Keep([]int{0}), api.ErrNil)
		wantErr(t, "Keep of no page's number", p.Keep([]int{-1, -1}), api.ErrNil)
		wantErr(t, "Keep of none", p.Keep(nil), api.ErrNil)
		wantNoWrite(t, p, "a", api.ErrNil)
		wantNoWrite(t, p, strings.Repeat("a", 1025), api.ErrNil)
		wantErr(t, "Rewrite", p.Rewrite(0, nil), api.ErrNil)
		wantErr(t, "Rewrite of too much", p.Rewrite(-1, make([]byte, 1025)), api.ErrNil)
		wantNoRead(t, p, 0, api.ErrNil)
		wantNoRead(t, p, -1, api.ErrNil)
		wantErr(t, "Release", p.Release(0), api.ErrNil)
		wantErr(t, "Release of none", p.Release(-1), api.ErrNil)
		wantErr(t, "Settle", p.Settle(), api.ErrNil)
		wantErr(t, "Undo", p.Undo(), api.ErrNil)
		pages{}.hold(t, p)
	}
}

// wantNoNew looks at a New that is to be refused.
func wantNoNew(t *testing.T, d *block.Disk, from, n int, want api.Errno) {
	t.Helper()
	if p, err := pager.New(d, from, n); p != nil || err != want {
		t.Errorf("New(from %d, n %d): a pager %t, Err %d, want none, %d", from, n, p != nil, err, want)
	}
}

func TestP9_1New(t *testing.T) {
	for _, x := range [][3]int{{8, 0, 1}, {9, 0, 1}, {9, 1, 1}, {15, 7, 1}, {34, 2, 4}, {41, 2, 4}, {64, 0, 8}, {64, 56, 1}, {api.MaxSectors, 0, 2048}, {api.MaxSectors, 16376, 1}} {
		d := newDisk(t, x[0])
		p := newPager(t, d, x[1], x[2])
		pages{n: x[2]}.hold(t, p)
		wantNoRead(t, p, 0, api.ErrNone)
		wantNoRead(t, p, x[2]-1, api.ErrNone)
		wantNoRead(t, p, x[2], api.ErrRange)
		if d.Pending() != 0 {
			t.Errorf("New(from %d, n %d) wrote %d sectors", x[1], x[2], d.Pending())
		}
	}
}

func TestP9_1NewNoDisk(t *testing.T) {
	for _, d := range []*block.Disk{nil, {}} {
		wantNoNew(t, d, 0, 1, api.ErrNil)
		wantNoNew(t, d, -1, 1, api.ErrNil)
		wantNoNew(t, d, 0, 0, api.ErrNil)
		wantNoNew(t, d, 0, math.MaxInt, api.ErrNil)
	}
}

func TestP9_1NewArg(t *testing.T) {
	d := newDisk(t, 34)
	for _, x := range [][2]int{{-1, 1}, {-8, 1}, {-8, 5}, {0, 0}, {0, -1}, {0, 5}, {2, 5}, {3, 4}, {10, 4}, {26, 2}, {27, 1}, {33, 1}, {34, 1}, {35, 1}, {42, 1}, {34, 0}, {42, -1}} {
		wantNoNew(t, d, x[0], x[1], api.ErrArg)
	}
	for _, n := range far {
		wantNoNew(t, d, 0, n, api.ErrArg)
		wantNoNew(t, d, 2, n, api.ErrArg)
		wantNoNew(t, d, n, n, api.ErrArg)
		if n < 0 || n > 34 {
			wantNoNew(t, d, n, 1, api.ErrArg)
			wantNoNew(t, d, n, -1, api.ErrArg)
		}
	}
	wantNoNew(t, newDisk(t, 7), 0, 1, api.ErrArg)
	wantNoNew(t, newDisk(t, api.MaxSectors), 1, 2048, api.ErrArg)
	wantNoNew(t, newDisk(t, api.MaxSectors), 0, 2049, api.ErrArg)
	newPager(t, d, 2, 4)
	newPager(t, d, 26, 1)
}

// Of a disk that is dead a pager is made nevertheless: nothing is read or written.
func TestP9_1NewDead(t *testing.T) {
	d := newDisk(t, 16)
	die(t, d)
	wantNoNew(t, d, 1, 2, api.ErrArg)
	pages{n: 2}.hold(t, newPager(t, d, 0, 2))
}

func TestP9_1Keep(t *testing.T) {
	d := newDisk(t, 48)
	wantErr(t, "Write", d.Write(16, []byte("there")), api.OK)
	p := newPager(t, d, 0, 6)
	wantErr(t, "Keep of none", p.Keep(nil), api.OK)
	wantErr(t, "Keep of none", p.Keep([]int{}), api.OK)
	pages{n: 6}.hold(t, p)
	l := []int{5, 2, 0, 9, 9}
	wantErr(t, "Keep", p.Keep(l[:3]), api.OK)
	if !slices.Equal(l, []int{5, 2, 0, 9, 9}) {
		t.Errorf("Keep has changed what it was given, or what stands behind: %v", l)
	}
	l[0], l[1] = 1, 1
	pages{n: 6, settled: []int{0, 2, 5}}.hold(t, p)
	wantRead(t, p, 2, "there")
	wantRead(t, p, 5, "")
	wantErr(t, "Keep", p.Keep([]int{3}), api.OK)
	pages{n: 6, settled: []int{0, 2, 3, 5}}.hold(t, p)
	wantWrite(t, p, "a", 1)
	wantWrite(t, p, "b", 4)
	wantNoWrite(t, p, "c", api.ErrDisk)
	wantErr(t, "Release(2)", p.Release(2), api.OK)
	pages{n: 6, settled: []int{0, 3, 5}, fresh: []int{1, 4}, old: []int{2}}.hold(t, p)
}

func TestP9_1KeepArg(t *testing.T) {
	p, _, want := each(t)
	// A page that is not free counts for nothing while a number is wrong, wherever each stands.
	for _, l := range [][]int{{5}, {-1}, {3, 5}, {3, -1}, {5, 3}, {0, 5}, {5, 0}, {1, -1}, {3, 3}, {3, 4, 3}, {0, 0}, {1, 1}, {2, 2}, {0, 3, 3}, {3, 3, 0}, {0, 3, 4, 0}, {-1, -1}} {
		wantErr(t, "Keep", p.Keep(l), api.ErrArg)
		want.hold(t, p)
	}
	for _, n := range far {
		wantErr(t, "Keep", p.Keep([]int{3, n}), api.ErrArg)
		want.hold(t, p)
	}
}

func TestP9_1KeepExists(t *testing.T) {
	p, _, want := each(t)
	for _, l := range [][]int{{0}, {1}, {2}, {3, 0}, {3, 4, 1}, {2, 3}, {4, 2, 3}, {0, 1, 2, 3, 4}} {
		wantErr(t, "Keep", p.Keep(l), api.ErrExists)
		want.hold(t, p)
	}
	wantErr(t, "Keep", p.Keep([]int{4, 3}), api.OK)
	pages{n: 5, settled: []int{0, 3, 4}, fresh: []int{1}, old: []int{2}}.hold(t, p)
}

// long tells a text of n bytes in which no sector is like another.
func long(n int) string {
	var s strings.Builder
	for i := range n {
		s.WriteByte(byte(1 + (i+i/128)%251))
	}
	return s.String()
}

func TestP9_2Write(t *testing.T) {
	for _, n := range []int{0, 1, 127, 128, 129, 255, 256, 512, 895, 896, 897, 1023, 1024} {
		d := newDisk(t, 30)
		for i := range 30 {
			wantErr(t, "Write", d.Write(i, []byte(long(128))), api.OK)
		}
		p := newPager(t, d, 5, 3)
		wantErr(t, "Keep", p.Keep([]int{0}), api.OK)
		b := []byte(long(n) + "behind")
		if i, err := p.Write(b[:n]); i != 1 || err != api.OK {
			t.Errorf("Write of %d bytes = %d, %d, want 1, 0", n, i, err)
		}
		if string(b) != long(n)+"behind" {
			t.Errorf("Write of %d bytes has changed what it was given, or what stands behind", n)
		}
		clear(b)
		wantRead(t, p, 1, long(n))
		for i := range 30 {
			want := []byte(long(128))
			if i >= 13 && i < 21 {
				want = whole(long(n))[128*(i-13):][:128]
			}
			if got, err := d.Read(i); !bytes.Equal(got, want) || err != api.OK {
				t.Errorf("Write of %d bytes: sector %d is %q, %d, want %q", n, i, got, err, want)
			}
		}
		if d.Pending() != 38 {
			t.Errorf("Write of %d bytes: %d sectors are pending, want 38", n, d.Pending())
		}
	}
}

// wantPiece looks at a page of which a crash has kept just the sector k of a long text, and noughts.
func wantPiece(t *testing.T, p *pager.Pager, i, k int) {
	t.Helper()
	b := make([]byte, 1024)
	copy(b[128*k:], long(1024)[128*k:][:128])
	wantRead(t, p, i, string(b))
}

// A page's sectors are written in order, each once: the one of the writes that a crash keeps is the sector of its number.
func TestP9_2WriteInOrder(t *testing.T) {
	for k := range 8 {
		d := newDisk(t, 12)
		p := newPager(t, d, 3, 1)
		wantWrite(t, p, long(1024), 0)
		wantErr(t, "Crash", d.Crash([]int{k}), api.OK)
		wantPiece(t, p, 0, k)
	}
}

func TestP9_2Rewrite(t *testing.T) {
	p, d, want := each(t)
	for _, n := range []int{1024, 0, 1, 128, 129, 1023, 1024, 127} {
		pending := d.Pending()
		b := []byte(long(n) + "behind")
		wantErr(t, "Rewrite", p.Rewrite(1, b[:n]), api.OK)
		if string(b) != long(n)+"behind" {
			t.Errorf("Rewrite of %d bytes has changed what it was given, or what stands behind", n)
		}
		clear(b)
		if d.Pending() != pending+8 {
			t.Errorf("Rewrite of %d bytes wrote %d sectors, want 8", n, d.Pending()-pending)
		}
		wantRead(t, p, 0, "a")
		wantRead(t, p, 1, long(n))
		wantRead(t, p, 2, "c")
		want.hold(t, p)
	}
}

// So are those of a page that is written again.
func TestP9_2RewriteInOrder(t *testing.T) {
	for k := range 8 {
		d := newDisk(t, 19)
		p := newPager(t, d, 3, 2)
		wantErr(t, "Keep", p.Keep([]int{0}), api.OK)
		wantWrite(t, p, "", 1)
		wantErr(t, "Rewrite", p.Rewrite(1, []byte(long(1024))), api.OK)
		wantErr(t, "Crash", d.Crash([]int{8 + k}), api.OK)
		wantPiece(t, p, 1, k)
		wantRead(t, p, 0, "")
	}
}

// In which order the errors are named: too many bytes first, then that there is no such page, then that the disk is dead.
func TestP9_2Refused(t *testing.T) {
	big := strings.Repeat("x", 1025)
	p, d, want := each(t)
	pending := d.Pending()
	wantNoWrite(t, p, big, api.ErrBig)
	wantNoWrite(t, p, big+big, api.ErrBig)
	for _, i := range append([]int{0, 1, 2, 3, 4}, far...) {
		wantErr(t, "Rewrite of too much", p.Rewrite(i, []byte(big)), api.ErrBig)
		if i != 1 {
			wantErr(t, "Rewrite", p.Rewrite(i, []byte("y")), api.ErrNone)
		}
	}
	if d.Pending() != pending {
		t.Errorf("calls that are refused wrote %d sectors", d.Pending()-pending)
	}
	want.hold(t, p)
	wantRead(t, p, 1, "b")
	die(t, d)
	wantNoWrite(t, p, big, api.ErrBig)
	wantNoWrite(t, p, "y", api.ErrDown)
	wantErr(t, "Rewrite of too much", p.Rewrite(1, []byte(big)), api.ErrBig)
	wantErr(t, "Rewrite of no fresh page", p.Rewrite(0, nil), api.ErrNone)
	wantErr(t, "Rewrite of no page", p.Rewrite(5, nil), api.ErrNone)
	wantErr(t, "Rewrite", p.Rewrite(1, nil), api.ErrDown)
	want.hold(t, p)
	wantErr(t, "Keep", p.Keep([]int{3, 4}), api.OK)
	wantNoWrite(t, p, "y", api.ErrDisk)
	wantNoWrite(t, p, big, api.ErrBig)
}

// A disk that dies in a Write has what was written ahead; the page is free as it was.
func TestP9_2WriteDies(t *testing.T) {
	for k := range 9 {
		p, d, want := each(t)
		pending := d.Pending()
		wantErr(t, "Arm", d.Arm(k), api.OK)
		if k == 8 {
			wantWrite(t, p, "y", 3)
			continue
		}
		wantNoWrite(t, p, long(1024), api.ErrDown)
		want.hold(t, p)
		wantNoRead(t, p, 3, api.ErrNone)
		if !d.Dead() || d.Pending() != pending+k {
			t.Errorf("fuse %d: dead %t, %d sectors were written", k, d.Dead(), d.Pending()-pending)
		}
		wantNoWrite(t, p, "", api.ErrDown)
		wantErr(t, "Crash", d.Crash(numbers(pending)), api.OK)
		want.hold(t, p)
		wantWrite(t, p, "y", 3)
		wantRead(t, p, 3, "y")
		wantRead(t, p, 0, "a")
		wantRead(t, p, 1, "b")
		wantRead(t, p, 2, "c")
	}
}

// numbers tells all numbers from 0 on, below n.
func numbers(n int) []int {
	var l []int
	for i := range n {
		l = append(l, i)
	}
	return l
}

// A disk that dies in a Rewrite has what was written ahead; the page is fresh as it was.
func TestP9_2RewriteDies(t *testing.T) {
	for k := range 9 {
		p, d, want := each(t)
		pending := d.Pending()
		wantErr(t, "Arm", d.Arm(k), api.OK)
		if k == 8 {
			wantErr(t, "Rewrite", p.Rewrite(1, []byte("y")), api.OK)
			wantRead(t, p, 1, "y")
			continue
		}
		wantErr(t, "Rewrite", p.Rewrite(1, []byte(long(1024))), api.ErrDown)
		want.hold(t, p)
		wantErr(t, "Crash", d.Crash(numbers(pending+k)), api.OK)
		b := whole("b")
		copy(b, long(1024)[:128*k])
		wantRead(t, p, 1, string(b))
		want.hold(t, p)
		wantErr(t, "Rewrite", p.Rewrite(1, []byte("z")), api.OK)
		wantRead(t, p, 1, "z")
	}
}

func TestP9_2Least(t *testing.T) {
	p := newPager(t, newDisk(t, 2048), 0, 256)
	for i := range 256 {
		wantWrite(t, p, "a", i)
	}
	wantNoWrite(t, p, "b", api.ErrDisk)
	wantNoWrite(t, p, "", api.ErrDisk)
	for _, i := range []int{255, 63, 0, 64, 128, 127} {
		wantErr(t, "Release", p.Release(i), api.OK)
	}
	for _, i := range []int{0, 63, 64, 127, 128, 255} {
		wantWrite(t, p, "b", i)
	}
	wantNoWrite(t, p, "b", api.ErrDisk)
}

func TestP9_3Read(t *testing.T) {
	p, d, want := each(t)
	for range 2 {
		wantRead(t, p, 0, "a")
		wantRead(t, p, 1, "b")
		wantRead(t, p, 2, "c")
		wantNoRead(t, p, 3, api.ErrNone)
		wantNoRead(t, p, 4, api.ErrNone)
		for _, i := range far {
			wantNoRead(t, p, i, api.ErrRange)
		}
		b, _ := p.Read(0)
		c, _ := p.Read(0)
		for i := range b {
			b[i] = 'x'
		}
		if !bytes.Equal(c, whole("a")) {
			t.Error("two answers share memory")
		}
		_ = append(b, "yyy"...)
		want.hold(t, p)
	}
	die(t, d)
	for i := range 3 {
		wantNoRead(t, p, i, api.ErrDown)
	}
	wantNoRead(t, p, 3, api.ErrNone)
	wantNoRead(t, p, 5, api.ErrRange)
	wantNoRead(t, p, -1, api.ErrRange)
	wantErr(t, "Crash", d.Crash(numbers(d.Pending())), api.OK)
	wantRead(t, p, 0, "a")
	wantRead(t, p, 1, "b")
	wantRead(t, p, 2, "c")
}

func TestP9_3Release(t *testing.T) {
	for dead := range 2 {
		p, d, want := each(t)
		pending := d.Pending()
		if dead > 0 {
			die(t, d)
		}
		for _, i := range far {
			wantErr(t, "Release of no page", p.Release(i), api.ErrRange)
		}
		wantErr(t, "Release of an old page", p.Release(2), api.ErrNone)
		wantErr(t, "Release of a free page", p.Release(3), api.ErrNone)
		wantErr(t, "Release of a free page", p.Release(4), api.ErrNone)
		want.hold(t, p)
		wantErr(t, "Release of a settled page", p.Release(0), api.OK)
		pages{n: 5, fresh: []int{1}, old: []int{0, 2}}.hold(t, p)
		wantErr(t, "Release of a fresh page", p.Release(1), api.OK)
		pages{n: 5, old: []int{0, 2}}.hold(t, p)
		wantErr(t, "Release twice", p.Release(0), api.ErrNone)
		wantErr(t, "Release twice", p.Release(1), api.ErrNone)
		pages{n: 5, old: []int{0, 2}}.hold(t, p)
		if d.Pending() != pending {
			t.Errorf("Release wrote %d sectors", d.Pending()-pending)
		}
	}
}

// What was released when it was fresh is written again at once, an old page is not.
func TestP9_3Again(t *testing.T) {
	p, _, _ := each(t)
	wantErr(t, "Release", p.Release(0), api.OK)
	wantWrite(t, p, "d", 3)
	wantErr(t, "Release", p.Release(1), api.OK)
	wantNoRead(t, p, 1, api.ErrNone)
	wantRead(t, p, 0, "a")
	wantErr(t, "Rewrite", p.Rewrite(1, nil), api.ErrNone)
	wantWrite(t, p, "e", 1)
	wantWrite(t, p, "f", 4)
	wantNoWrite(t, p, "g", api.ErrDisk)
	wantRead(t, p, 0, "a")
	wantRead(t, p, 1, "e")
}

func TestP9_4Settle(t *testing.T) {
	for dead := range 2 {
		p, d, _ := each(t)
		pending := d.Pending()
		if dead > 0 {
			die(t, d)
		}
		wantErr(t, "Settle", p.Settle(), api.OK)
		pages{n: 5, settled: []int{0, 1}}.hold(t, p)
		wantErr(t, "Settle", p.Settle(), api.OK)
		pages{n: 5, settled: []int{0, 1}}.hold(t, p)
		if d.Pending() != pending {
			t.Errorf("Settle: %d sectors are pending, want %d", d.Pending(), pending)
		}
		wantErr(t, "Rewrite of a settled page", p.Rewrite(1, nil), api.ErrNone)
		wantNoRead(t, p, 2, api.ErrNone)
		wantErr(t, "Crash", d.Crash(numbers(pending)), api.OK)
		wantWrite(t, p, "d", 2)
	}
}

func TestP9_4Undo(t *testing.T) {
	for dead := range 2 {
		p, d, _ := each(t)
		pending := d.Pending()
		if dead > 0 {
			die(t, d)
		}
		wantErr(t, "Undo", p.Undo(), api.OK)
		pages{n: 5, settled: []int{0, 2}}.hold(t, p)
		wantErr(t, "Undo", p.Undo(), api.OK)
		pages{n: 5, settled: []int{0, 2}}.hold(t, p)
		if d.Pending() != pending {
			t.Errorf("Undo: %d sectors are pending, want %d", d.Pending(), pending)
		}
		wantErr(t, "Rewrite of a free page", p.Rewrite(1, nil), api.ErrNone)
		wantNoRead(t, p, 1, api.ErrNone)
		wantErr(t, "Crash", d.Crash(numbers(pending)), api.OK)
		wantRead(t, p, 0, "a")
		wantRead(t, p, 2, "c")
		wantWrite(t, p, "d", 1)
		wantErr(t, "Release", p.Release(2), api.OK)
	}
}

func TestP9_5Pages(t *testing.T) {
	p, _, want := each(t)
	settled, fresh, old := p.Pages()
	for _, l := range [][]int{settled, fresh, old} {
		for i := range l {
			l[i] = 4
		}
		_ = append(l, 4, 4)
	}
	want.hold(t, p)

	// In whichever order pages became what they are, their numbers rise.
	p = newPager(t, newDisk(t, 96), 0, 12)
	wantErr(t, "Keep", p.Keep([]int{9, 3, 10, 0, 7, 4}), api.OK)
	for _, i := range []int{9, 0, 4} {
		wantErr(t, "Release", p.Release(i), api.OK)
	}
	for _, i := range []int{1, 2, 5, 6, 8} {
		wantWrite(t, p, "a", i)
	}
	wantErr(t, "Release", p.Release(2), api.OK)
	wantErr(t, "Release", p.Release(6), api.OK)
	wantWrite(t, p, "a", 2)
	pages{n: 12, settled: []int{3, 7, 10}, fresh: []int{1, 2, 5, 8}, old: []int{0, 4, 9}}.hold(t, p)
}

// What was flushed and settled stays at all crashes in the calls that come then, until Settle; and so does what is old.
func TestP9_6Stays(t *testing.T) {
	for fuse := range 40 {
		d := newDisk(t, 64)
		p := newPager(t, d, 1, 6)
		wantWrite(t, p, long(1024), 0)
		wantWrite(t, p, "b", 1)
		wantWrite(t, p, long(700), 2)
		wantErr(t, "Flush", d.Flush(), api.OK)
		wantErr(t, "Settle", p.Settle(), api.OK)
		wantErr(t, "Arm", d.Arm(fuse), api.OK)
		p.Release(0)
		p.Write([]byte("d"))
		p.Rewrite(3, []byte(long(1000)))
		p.Rewrite(0, []byte("x"))
		p.Rewrite(1, []byte("x"))
		p.Release(3)
		p.Release(2)
		p.Write([]byte("e"))
		p.Write([]byte("f"))
		p.Write([]byte("g"))
		p.Write([]byte("h"))
		for keep := range 4 {
			crashed := d.Copy()
			var l []int
			for i := range crashed.Pending() {
				if keep&1<<(i%2) > 0 {
					l = append(l, i)
				}
			}
			crashed.Crash(l)
			found := newPager(t, crashed, 1, 6)
			wantErr(t, "Keep", found.Keep([]int{0, 1, 2}), api.OK)
			wantRead(t, found, 0, long(1024))
			wantRead(t, found, 1, "b")
			wantRead(t, found, 2, long(700))
		}
		d.Crash(nil)
		for range 2 {
			wantRead(t, p, 0, long(1024))
			wantRead(t, p, 1, "b")
			wantRead(t, p, 2, long(700))
			wantErr(t, "Undo", p.Undo(), api.OK)
		}
		pages{n: 6, settled: []int{0, 1, 2}}.hold(t, p)
	}
}

func TestP9_7Undone(t *testing.T) {
	p := newPager(t, newDisk(t, 40), 0, 5)
	wantWrite(t, p, "a", 0)
	wantWrite(t, p, "b", 1)
	wantErr(t, "Undo to the beginning", p.Undo(), api.OK)
	pages{n: 5}.hold(t, p)
	wantErr(t, "Keep", p.Keep([]int{1}), api.OK)
	wantWrite(t, p, "c", 0)
	wantErr(t, "Release", p.Release(1), api.OK)
	wantErr(t, "Keep", p.Keep([]int{3}), api.OK)
	wantErr(t, "Undo to the beginning and what was kept", p.Undo(), api.OK)
	pages{n: 5, settled: []int{1, 3}}.hold(t, p)
	wantWrite(t, p, "d", 0)
	wantErr(t, "Release", p.Release(3), api.OK)
	wantErr(t, "Settle", p.Settle(), api.OK)
	wantErr(t, "Release", p.Release(0), api.OK)
	wantErr(t, "Release", p.Release(1), api.OK)
	wantWrite(t, p, "e", 2)
	wantWrite(t, p, "f", 3)
	wantErr(t, "Release", p.Release(2), api.OK)
	wantErr(t, "Keep", p.Keep([]int{2}), api.OK)
	wantErr(t, "Undo to the last Settle", p.Undo(), api.OK)
	pages{n: 5, settled: []int{0, 1, 2}}.hold(t, p)
	wantErr(t, "Release", p.Release(2), api.OK)
	wantWrite(t, p, "g", 3)
	wantErr(t, "Undo to the last Undo", p.Undo(), api.OK)
	pages{n: 5, settled: []int{0, 1, 2}}.hold(t, p)
	wantRead(t, p, 0, "d")
}
