package block_test

import (
	"math"
	"slices"
	"strings"
	"testing"

	"ambry/api"
	"ambry/block"
)

// newDisk tells a disk of n sectors.
func newDisk(t *testing.T, n int) *block.Disk {
	t.Helper()
	d, err := block.New(n)
	if err != api.OK || d == nil {
		t.Fatalf("New(%d) = %v, %d", n, d, err)
	}
	return d
}

// full is a sector that begins with s, and has noughts behind.
func full(s string) string {
	return s + strings.Repeat("\x00", 128-len(s))
}

// ok looks at what a call answered that is to be done.
func ok(t *testing.T, err api.Errno) {
	t.Helper()
	if err != api.OK {
		t.Fatalf("Err %d, want OK", err)
	}
}

// write writes a sector, and is not refused.
func write(t *testing.T, d *block.Disk, i int, s string) {
	t.Helper()
	ok(t, d.Write(i, []byte(s)))
}

// wantSector looks at what a sector has.
func wantSector(t *testing.T, d *block.Disk, i int, s string) {
	t.Helper()
	b, err := d.Read(i)
	if err != api.OK || string(b) != full(s) {
		t.Fatalf("Read(%d) = %q, %d, want %.20q and noughts", i, b, err, s)
	}
}

// wantSectors looks at what all sectors have.
func wantSectors(t *testing.T, d *block.Disk, l ...string) {
	t.Helper()
	if d.Size() != len(l) {
		t.Fatalf("Size = %d, want %d", d.Size(), len(l))
	}
	for i, s := range l {
		wantSector(t, d, i, s)
	}
}

// wantState looks at how many writes are pending, and whether the disk is dead.
func wantState(t *testing.T, d *block.Disk, pending int, dead bool) {
	t.Helper()
	if d.Pending() != pending || d.Dead() != dead {
		t.Fatalf("Pending = %d, Dead = %v, want %d, %v", d.Pending(), d.Dead(), pending, dead)
	}
}

// die lets a disk die by a flush.
func die(t *testing.T, d *block.Disk) {
	t.Helper()
	ok(t, d.Arm(0))
	if err := d.Flush(); err != api.ErrDown || !d.Dead() {
		t.Fatalf("Flush = %d, Dead = %v, want %d, true", err, d.Dead(), api.ErrDown)
	}
}

// subset are the numbers of a mask's bits.
func subset(mask int) []int {
	var l []int
	for i := range 31 {
		if mask>>i&1 == 1 {
			l = append(l, i)
		}
	}
	return l
}

// noNumbers are whole numbers that are no sector, and no pending write, where there are n of them.
func noNumbers(n int) []int {
	return []int{-1, -2, -128, n, n + 1, n + 128, 1 << 31, 1 << 32, 1<<32 + 1, 1 << 62, math.MinInt, math.MinInt + 1, math.MaxInt}
}

func TestP4OfNoDisk(t *testing.T) {
	for _, d := range []*block.Disk{nil, {}, new(block.Disk)} {
		if d.Size() != 0 || d.Pending() != 0 || d.Dead() || d.Copy() != nil {
			t.Errorf("Size %d, Pending %d, Dead %v, Copy %v", d.Size(), d.Pending(), d.Dead(), d.Copy())
		}
		for _, i := range append(noNumbers(1), 0) {
			if b, err := d.Read(i); len(b) != 0 || err != api.ErrNil {
				t.Errorf("Read(%d) = %q, %d", i, b, err)
			}
			for _, size := range []int{0, 1, 128, 129} {
				if err := d.Write(i, make([]byte, size)); err != api.ErrNil {
					t.Errorf("Write(%d) of %d bytes = %d", i, size, err)
				}
			}
			for name, err := range map[string]api.Errno{"Flush": d.Flush(), "Arm": d.Arm(i), "Crash": d.Crash([]int{i}), "Crash of none": d.Crash(nil)} {
				if err != api.ErrNil {
					t.Errorf("%s = %d, want %d", name, err, api.ErrNil)
				}
			}
		}
		if d.Size() != 0 || d.Pending() != 0 || d.Dead() || d.Copy() != nil {
			t.Error("a call did something")
		}
	}
}

func TestP4_1New(t *testing.T) {
	for _, n := range []int{1, 2, 3, 64, 127, 128, 129, 16383, 16384} {
		d := newDisk(t, n)
		wantSectors(t, d, make([]string, n)...)
		wantState(t, d, 0, false)
		for i := range 2000 {
			write(t, d, i%n, "a")
			ok(t, d.Flush())
		}
		if d.Size() != n {
			t.Errorf("Size = %d, want %d", d.Size(), n)
		}
	}
}

func TestP4_1NewRefused(t *testing.T) {
	for _, n := range append(noNumbers(16385), 0) {
		if d, err := block.New(n); d != nil || err != api.ErrArg {
			t.Errorf("New(%d) = %v, %d, want none, %d", n, d, err, api.ErrArg)
		}
	}
}

func TestP4_1DisksAreTheirOwn(t *testing.T) {
	a, b := newDisk(t, 2), newDisk(t, 2)
	write(t, a, 0, "a")
	ok(t, a.Flush())
	write(t, a, 1, "b")
	wantSectors(t, b, "", "")
	wantState(t, b, 0, false)
}

func TestP4_1SizeStays(t *testing.T) {
	d := newDisk(t, 3)
	write(t, d, 1, "a")
	die(t, d)
	if d.Size() != 3 {
		t.Errorf("Size of a dead disk = %d", d.Size())
	}
	ok(t, d.Crash(nil))
	if d.Size() != 3 {
		t.Errorf("Size behind a crash = %d", d.Size())
	}
}

func TestP4_2WriteAndRead(t *testing.T) {
	d := newDisk(t, 3)
	long := strings.Repeat("x", 128)
	for i, s := range []string{"a", "", long, "b\x00c", "\x00\x00d", long[:127], "\xff", long} {
		write(t, d, 1, long)
		write(t, d, 1, s)
		wantSectors(t, d, "", s, "")
		wantState(t, d, 2*i+2, false)
	}
	ok(t, d.Write(1, nil))
	wantSectors(t, d, "", "", "")
}

func TestP4_2EachLength(t *testing.T) {
	d := newDisk(t, 2)
	for size := range 129 {
		write(t, d, 0, strings.Repeat("y", 128))
		s := strings.Repeat("z", size)
		write(t, d, 0, s)
		wantSectors(t, d, s, "")
		ok(t, d.Flush())
		wantSectors(t, d, s, "")
	}
}

func TestP4_2LastWriteTells(t *testing.T) {
	d := newDisk(t, 3)
	want := make([]string, 3)
	for n := range 200 {
		i, s := n*n%3, strings.Repeat(string(rune('a'+n%26)), 1+n%128)
		want[i] = s
		write(t, d, i, s)
		wantSectors(t, d, want...)
		if n%37 == 36 {
			ok(t, d.Flush())
			wantState(t, d, 0, false)
			wantSectors(t, d, want...)
		}
	}
	ok(t, d.Crash(nil))
	wantState(t, d, 0, false)
}

func TestP4_2FlushKeepsInOrder(t *testing.T) {
	d := newDisk(t, 3)
	for _, s := range []string{"a", "bb", "c"} {
		write(t, d, 2, s)
		write(t, d, 0, s+s)
	}
	wantState(t, d, 6, false)
	ok(t, d.Flush())
	wantState(t, d, 0, false)
	wantSectors(t, d, "cc", "", "c")
	ok(t, d.Flush())
	ok(t, d.Crash(nil))
	wantSectors(t, d, "cc", "", "c")
}

func TestP4_2NoSuchSector(t *testing.T) {
	for _, n := range []int{1, 3, 16384} {
		d := newDisk(t, n)
		write(t, d, n-1, "a")
		for _, i := range noNumbers(n) {
			if b, err := d.Read(i); len(b) != 0 || err != api.ErrRange {
				t.Errorf("of %d: Read(%d) = %q, %d, want none, %d", n, i, b, err, api.ErrRange)
			}
			for _, size := range []int{0, 1, 128, 129, 1 << 20} {
				if err := d.Write(i, make([]byte, size)); err != api.ErrRange {
					t.Errorf("of %d: Write(%d) of %d bytes = %d, want %d", n, i, size, err, api.ErrRange)
				}
			}
		}
		wantState(t, d, 1, false)
		wantSector(t, d, n-1, "a")
	}
}

func TestP4_2TooBig(t *testing.T) {
	d := newDisk(t, 2)
	write(t, d, 1, "a")
	for _, size := range []int{129, 130, 256, 1 << 20} {
		if err := d.Write(1, make([]byte, size)); err != api.ErrBig {
			t.Errorf("Write of %d bytes = %d, want %d", size, err, api.ErrBig)
		}
	}
	wantState(t, d, 1, false)
	wantSectors(t, d, "", "a")
}

// What is refused ahead of the fuse neither burns it nor lets the disk die.
func TestP4_2RefusedBurnsNothing(t *testing.T) {
	d := newDisk(t, 2)
	for left := range 3 {
		ok(t, d.Arm(left))
		for range 5 {
			if err := d.Write(2, nil); err != api.ErrRange {
				t.Fatalf("Write = %d, want %d", err, api.ErrRange)
			}
			if err := d.Write(1, make([]byte, 129)); err != api.ErrBig {
				t.Fatalf("Write = %d, want %d", err, api.ErrBig)
			}
			if _, err := d.Read(-1); err != api.ErrRange {
				t.Fatalf("Read = %d, want %d", err, api.ErrRange)
			}
		}
		wantState(t, d, 0, false)
		wantFuse(t, d.Copy(), left)
	}
}

// wantFuse looks at a disk's fuse: it goes off behind so many writes and flushes.
func wantFuse(t *testing.T, d *block.Disk, left int) {
	t.Helper()
	for n := range left {
		if n%2 == 0 {
			write(t, d, 0, "f")
		} else {
			ok(t, d.Flush())
		}
		if d.Dead() {
			t.Fatalf("dead behind %d, want %d", n, left)
		}
	}
	pending := d.Pending()
	if err := d.Write(0, []byte("g")); err != api.ErrDown {
		t.Fatalf("Write behind a fuse of %d = %d, want %d", left, err, api.ErrDown)
	}
	wantState(t, d, pending, true)
}

// wantNoFuse looks at a disk that has none.
func wantNoFuse(t *testing.T, d *block.Disk) {
	t.Helper()
	for range 200 {
		write(t, d, 0, "f")
		ok(t, d.Flush())
	}
	wantState(t, d, 0, false)
}

func TestP4_2FuseOfWrites(t *testing.T) {
	for n := range 20 {
		d := newDisk(t, 1)
		ok(t, d.Arm(n))
		for range n {
			write(t, d, 0, "a")
		}
		wantState(t, d, n, false)
		if err := d.Write(0, []byte("b")); err != api.ErrDown {
			t.Fatalf("Write = %d, want %d", err, api.ErrDown)
		}
		wantState(t, d, n, true)
		ok(t, d.Crash(subset(1<<(n+1)-1)))
		wantSectors(t, d, "aaaaa"[:min(n, 1)])
	}
}

func TestP4_2FuseOfFlushes(t *testing.T) {
	for n := range 20 {
		d := newDisk(t, 1)
		write(t, d, 0, "a")
		ok(t, d.Arm(n))
		for range n {
			ok(t, d.Flush())
		}
		pending := d.Pending()
		if err := d.Flush(); err != api.ErrDown {
			t.Fatalf("Flush = %d, want %d", err, api.ErrDown)
		}
		wantState(t, d, pending, true)
		ok(t, d.Crash(nil))
		wantSectors(t, d, "aaaaa"[:min(n, 1)])
	}
}

func TestP4_2NothingShared(t *testing.T) {
	d := newDisk(t, 2)
	whole := []byte("abcdef")
	ok(t, d.Write(0, whole[:2]))
	wantSectors(t, d, "ab", "")
	if string(whole) != "abcdef" {
		t.Errorf("changed what was handed in: %q", whole)
	}
	copy(whole, "xxxxxx")
	wantSectors(t, d, "ab", "")
	for range 2 {
		for i := range 2 {
			b, _ := d.Read(i)
			again, _ := d.Read(i)
			for j := range b {
				b[j] = 'y'
			}
			_ = append(b, "zzz"...)
			if slices.Contains(again, 'y') {
				t.Errorf("two answers of Read(%d) share", i)
			}
		}
		wantSectors(t, d, "ab", "")
		ok(t, d.Flush())
	}
	ok(t, d.Crash(nil))
	wantSectors(t, d, "ab", "")
}

func TestP4_3Pending(t *testing.T) {
	d := newDisk(t, 2)
	for n := range 50 {
		wantState(t, d, n, false)
		write(t, d, n%2, "a")
	}
	ok(t, d.Flush())
	wantState(t, d, 0, false)
	write(t, d, 0, "b")
	write(t, d, 0, "b")
	wantState(t, d, 2, false)
	ok(t, d.Crash([]int{0}))
	wantState(t, d, 0, false)
	write(t, d, 0, "c")
	die(t, d)
	wantState(t, d, 1, true)
}

func TestP4_3Arm(t *testing.T) {
	d := newDisk(t, 1)
	for n := range 12 {
		ok(t, d.Arm(n))
		wantState(t, d, 0, false)
		wantFuse(t, d.Copy(), n)
	}
	for _, n := range []int{1 << 31, 1 << 32, math.MaxInt, -1, -2, math.MinInt, math.MinInt + 1, -1 << 32} {
		ok(t, d.Arm(0))
		ok(t, d.Arm(n))
		wantNoFuse(t, d.Copy())
	}
	ok(t, d.Arm(1))
	write(t, d, 0, "a")
	ok(t, d.Arm(2))
	wantFuse(t, d, 2)
}

// A fuse of 0 has not gone off yet: only the next write, or flush, lets the disk die.
func TestP4_3ArmedIsNotDead(t *testing.T) {
	d := newDisk(t, 2)
	write(t, d, 0, "a")
	ok(t, d.Arm(0))
	for range 5 {
		wantSectors(t, d, "a", "")
		wantState(t, d, 1, false)
		wantState(t, d.Copy(), 1, false)
	}
	if err := d.Flush(); err != api.ErrDown {
		t.Errorf("Flush = %d, want %d", err, api.ErrDown)
	}
	wantState(t, d, 1, true)
}

func TestP4_3ReadsBurnNothing(t *testing.T) {
	d := newDisk(t, 2)
	ok(t, d.Arm(2))
	for range 5 {
		wantSectors(t, d, "", "")
		wantState(t, d, 0, false)
		d.Copy()
	}
	wantFuse(t, d, 2)
}

func TestP4_3ArmOfADeadDisk(t *testing.T) {
	d := newDisk(t, 2)
	die(t, d)
	for _, n := range []int{-1, 0, 1, 5, math.MinInt, math.MaxInt} {
		if err := d.Arm(n); err != api.ErrDown {
			t.Errorf("Arm(%d) = %d, want %d", n, err, api.ErrDown)
		}
		if err := d.Flush(); err != api.ErrDown {
			t.Errorf("Flush = %d, want %d", err, api.ErrDown)
		}
		wantState(t, d, 0, true)
	}
	ok(t, d.Crash(nil))
	wantNoFuse(t, d)
}

// sixWrites is a disk of three sectors that have something, and six pending writes to them.
func sixWrites(t *testing.T) (*block.Disk, []int, []string) {
	t.Helper()
	d := newDisk(t, 3)
	for i := range 3 {
		write(t, d, i, "old"+strings.Repeat("o", 100))
	}
	ok(t, d.Flush())
	at, what := []int{0, 1, 0, 2, 1, 0}, []string{"a", "bb", "cccc", "d", "ee", "f"}
	for n, s := range what {
		write(t, d, at[n], s)
	}
	return d, at, what
}

// left is what sectors have behind a crash of sixWrites that keeps a mask's writes.
func left(at []int, what []string, mask int) []string {
	l := slices.Repeat([]string{"old" + strings.Repeat("o", 100)}, 3)
	for n, s := range what {
		if mask>>n&1 == 1 {
			l[at[n]] = s
		}
	}
	return l
}

func TestP4_4EachSubset(t *testing.T) {
	base, at, what := sixWrites(t)
	for mask := range 1 << len(what) {
		keep := subset(mask)
		falling := slices.Clone(keep)
		slices.Reverse(falling)
		twice := slices.Concat(falling, keep, keep)
		more := slices.Concat(noNumbers(len(what)), falling, noNumbers(len(what)), keep)
		for _, l := range [][]int{keep, falling, twice, more} {
			d, handed := base.Copy(), slices.Clone(l)
			ok(t, d.Crash(handed))
			if !slices.Equal(handed, l) {
				t.Fatalf("Crash changed %v to %v", l, handed)
			}
			wantState(t, d, 0, false)
			wantSectors(t, d, left(at, what, mask)...)
			ok(t, d.Crash(subset(1<<6-1)))
			wantSectors(t, d, left(at, what, mask)...)
		}
	}
}

func TestP4_4NothingPending(t *testing.T) {
	d := newDisk(t, 2)
	for _, keep := range [][]int{nil, {}, {0}, {0, 1, 2}, noNumbers(0)} {
		ok(t, d.Crash(keep))
		wantSectors(t, d, "", "")
		wantState(t, d, 0, false)
	}
}

// Numbers tell of what is pending now, and not of what was ahead of a flush or a crash.
func TestP4_4NumbersBeginAnew(t *testing.T) {
	d := newDisk(t, 2)
	write(t, d, 0, "a")
	write(t, d, 1, "b")
	ok(t, d.Flush())
	write(t, d, 1, "c")
	write(t, d, 0, "d")
	ok(t, d.Crash([]int{1}))
	wantSectors(t, d, "d", "b")
	write(t, d, 1, "e")
	write(t, d, 1, "f")
	ok(t, d.Crash([]int{0}))
	wantSectors(t, d, "d", "e")
	write(t, d, 0, "g")
	wantSectors(t, d, "g", "e")
}

func TestP4_4FuseIsGone(t *testing.T) {
	for n := range 4 {
		d := newDisk(t, 1)
		ok(t, d.Arm(n))
		ok(t, d.Crash(nil))
		wantNoFuse(t, d)
		ok(t, d.Arm(n))
		wantFuse(t, d, n)
		ok(t, d.Crash(nil))
		wantState(t, d, 0, false)
		wantNoFuse(t, d)
	}
}

// The write that a disk dies by is not pending, and can't be kept.
func TestP4_4OfADeadDisk(t *testing.T) {
	base, at, what := sixWrites(t)
	ok(t, base.Arm(0))
	if err := base.Write(0, []byte("never")); err != api.ErrDown {
		t.Fatalf("Write = %d, want %d", err, api.ErrDown)
	}
	for mask := range 1 << len(what) {
		d := base.Copy()
		ok(t, d.Crash(append(subset(mask), 6, 7)))
		wantState(t, d, 0, false)
		wantSectors(t, d, left(at, what, mask)...)
		write(t, d, 0, "new")
		ok(t, d.Flush())
		wantSector(t, d, 0, "new")
	}
}

// changes are what may be done to a disk.
func changes() []func(d *block.Disk) {
	return []func(d *block.Disk){
		func(d *block.Disk) { d.Write(0, []byte("x")) },
		func(d *block.Disk) { d.Write(2, []byte("y")); d.Write(1, []byte("z")) },
		func(d *block.Disk) { d.Flush() },
		func(d *block.Disk) { d.Flush(); d.Write(0, []byte("w")) },
		func(d *block.Disk) { d.Arm(0); d.Flush() },
		func(d *block.Disk) { d.Arm(1) },
		func(d *block.Disk) { d.Crash(nil) },
		func(d *block.Disk) { d.Crash([]int{0, 3}); d.Write(0, []byte("v")) },
		func(d *block.Disk) { d.Crash([]int{5}); d.Write(0, []byte("u")); d.Flush() },
	}
}

func TestP4_5WhatIsDoneToOne(t *testing.T) {
	base, at, what := sixWrites(t)
	for _, do := range changes() {
		for _, ofTheCopy := range []bool{true, false} {
			d := base.Copy()
			c := d.Copy()
			if ofTheCopy {
				c, d = d, c
			}
			do(c)
			wantState(t, d, 6, false)
			wantSectors(t, d, "f", "ee", "d")
			ok(t, d.Crash([]int{0, 1}))
			wantSectors(t, d, left(at, what, 3)...)
			wantNoFuse(t, d)
		}
	}
}

// Appending behind the same end must not let two disks write one place.
func TestP4_5BothWrite(t *testing.T) {
	for size := range 20 {
		a := newDisk(t, 3)
		for range size {
			write(t, a, 0, "o")
		}
		b, c := a.Copy(), a.Copy()
		write(t, a, 1, "a")
		write(t, b, 2, "b")
		write(t, c, 1, "c")
		ok(t, a.Crash([]int{size}))
		ok(t, b.Crash([]int{size}))
		ok(t, c.Crash([]int{size}))
		wantSectors(t, a, "", "a", "")
		wantSectors(t, b, "", "", "b")
		wantSectors(t, c, "", "c", "")
	}
}

func TestP4_5Alike(t *testing.T) {
	for n := range 5 {
		d, _, _ := sixWrites(t)
		ok(t, d.Arm(n))
		c := d.Copy()
		wantState(t, c, 6, false)
		wantSectors(t, c, "f", "ee", "d")
		wantFuse(t, c, n)
		wantFuse(t, d, n)
	}
	d := newDisk(t, 2)
	wantNoFuse(t, d.Copy())
	write(t, d, 1, "a")
	die(t, d)
	c := d.Copy()
	wantState(t, c, 1, true)
	ok(t, d.Crash(nil))
	wantState(t, c, 1, true)
	ok(t, c.Crash([]int{0}))
	wantSectors(t, d, "", "")
	wantSectors(t, c, "", "a")
}

func TestP4_6Sure(t *testing.T) {
	base, _, _ := sixWrites(t)
	ok(t, base.Flush())
	for mask := range 1 << 5 {
		for fuse := range 8 {
			d := base.Copy()
			ok(t, d.Arm(fuse))
			for n := range 5 {
				d.Write(n%2, []byte("new"))
			}
			ok(t, d.Crash(subset(mask)))
			wantSector(t, d, 2, "d")
			ok(t, d.Crash(subset(mask)))
			wantSector(t, d, 2, "d")
			if fuse == 0 || mask&0b10101 == 0 {
				wantSector(t, d, 0, "f")
			}
			write(t, d, 2, "again")
			ok(t, d.Flush())
			ok(t, d.Crash(nil))
			wantSector(t, d, 2, "again")
		}
	}
}

// A crash keeps whole sectors: also of writes of few bytes over many, and of such as differ in each byte.
func TestP4_7WholeSectors(t *testing.T) {
	texts := []string{strings.Repeat("k", 128), "a", strings.Repeat("b", 127), "", strings.Repeat("\xff", 128), "c\x00\x00c"}
	base := newDisk(t, 2)
	write(t, base, 0, texts[0])
	write(t, base, 1, texts[0])
	ok(t, base.Flush())
	for _, s := range texts[1:] {
		write(t, base, 0, s)
		write(t, base, 1, s)
	}
	for mask := range 1 << base.Pending() {
		d := base.Copy()
		ok(t, d.Crash(subset(mask)))
		for i := range 2 {
			b, err := d.Read(i)
			whole := func(s string) bool { return full(s) == string(b) }
			if err != api.OK || !slices.ContainsFunc(texts, whole) {
				t.Fatalf("keeping %b: Read(%d) = %q, %d", mask, i, b, err)
			}
		}
	}
}

func TestP4_8Dead(t *testing.T) {
	base, at, what := sixWrites(t)
	die(t, base)
	for mask := range 1 << len(what) {
		d := base.Copy()
		for range 3 {
			for i := range 3 {
				if b, err := d.Read(i); len(b) != 0 || err != api.ErrDown {
					t.Fatalf("Read = %q, %d, want none, %d", b, err, api.ErrDown)
				}
				for name, err := range map[string]api.Errno{"Write": d.Write(i, []byte("x")), "Flush": d.Flush(), "Arm": d.Arm(5 - 3*i)} {
					if err != api.ErrDown {
						t.Fatalf("%s = %d, want %d", name, err, api.ErrDown)
					}
				}
			}
			wantState(t, d, 6, true)
		}
		ok(t, d.Crash(subset(mask)))
		wantSectors(t, d, left(at, what, mask)...)
		wantNoFuse(t, d)
	}
}

// That the disk is dead is told ahead of all else that is wrong.
func TestP4_8DeadIsToldFirst(t *testing.T) {
	d := newDisk(t, 2)
	die(t, d)
	for _, i := range append(noNumbers(2), 0, 1) {
		if b, err := d.Read(i); len(b) != 0 || err != api.ErrDown {
			t.Errorf("Read(%d) = %q, %d, want none, %d", i, b, err, api.ErrDown)
		}
		for _, size := range []int{0, 128, 129} {
			if err := d.Write(i, make([]byte, size)); err != api.ErrDown {
				t.Errorf("Write(%d) of %d bytes = %d, want %d", i, size, err, api.ErrDown)
			}
		}
	}
	wantState(t, d, 0, true)
}

func TestP4Example(t *testing.T) {
	d := newDisk(t, 2)
	write(t, d, 0, "a")
	write(t, d, 0, "b")
	write(t, d, 1, "c")
	wantSectors(t, d, "b", "c")
	ok(t, d.Crash([]int{0, 2}))
	wantSectors(t, d, "a", "c")
	ok(t, d.Arm(1))
	write(t, d, 0, "d")
	if err := d.Flush(); err != api.ErrDown {
		t.Errorf("Flush = %d, want %d", err, api.ErrDown)
	}
	if b, err := d.Read(0); len(b) != 0 || err != api.ErrDown {
		t.Errorf("Read = %q, %d, want none, %d", b, err, api.ErrDown)
	}
	ok(t, d.Crash(nil))
	wantSectors(t, d, "a", "c")
}
