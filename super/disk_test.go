package super_test

import (
	"bytes"
	"math"
	"slices"
	"testing"

	"ambry/api"
	"ambry/block"
	"ambry/super"
)

// ok looks at what a call answered that is to be done.
func ok(t *testing.T, err api.Errno) {
	t.Helper()
	if err != api.OK {
		t.Fatalf("Err %d, want OK", err)
	}
}

// newDisk tells a disk of n sectors, which begins with those that are given, kept; others are blank.
func newDisk(t *testing.T, n int, l ...[]byte) *block.Disk {
	t.Helper()
	d, err := block.New(n)
	ok(t, err)
	for i, b := range l {
		ok(t, d.Write(i, b))
	}
	ok(t, d.Flush())
	return d
}

// form tells a right super's bytes.
func form(s api.Super) []byte {
	return rawOf(s).sector()
}

// gen tells a super of that Gen, which is not another one's but for it.
func gen(n, root int) api.Super {
	return of(n, root, 7, 8, 9, 1)
}

// wantFind looks at a disk's super.
func wantFind(t *testing.T, d *block.Disk, want api.Super, sector int) {
	t.Helper()
	if s, at, err := super.Find(d); s != want || at != sector || err != api.OK {
		t.Fatalf("Find = %+v, %d, %d, want %+v, %d", s, at, err, want, sector)
	}
}

// wantNoFind looks at a disk that has no super that can be told.
func wantNoFind(t *testing.T, d *block.Disk, want api.Errno) {
	t.Helper()
	if s, at, err := super.Find(d); s != (api.Super{}) || at != 0 || err != want {
		t.Fatalf("Find = %+v, %d, %d, want none, %d", s, at, err, want)
	}
}

// wantSave saves a super, which is written as what is wanted.
func wantSave(t *testing.T, d *block.Disk, s, want api.Super) {
	t.Helper()
	if got, err := super.Save(d, s); got != want || err != api.OK {
		t.Fatalf("Save(%+v) = %+v, %d, want %+v", s, got, err, want)
	}
}

// wantNoSave saves a super, and is refused.
func wantNoSave(t *testing.T, d *block.Disk, s api.Super, want api.Errno) {
	t.Helper()
	if got, err := super.Save(d, s); got != (api.Super{}) || err != want {
		t.Fatalf("Save(%+v) = %+v, %d, want none, %d", s, got, err, want)
	}
}

// wantBytes looks at what a sector has.
func wantBytes(t *testing.T, d *block.Disk, i int, want []byte) {
	t.Helper()
	own := make([]byte, 128)
	copy(own, want)
	if b, err := d.Read(i); err != api.OK || !bytes.Equal(b, own) {
		t.Fatalf("sector %d has %x, %d, want %x", i, b, err, own)
	}
}

// noDisks are those that nothing made.
func noDisks() []*block.Disk {
	return []*block.Disk{nil, {}, new(block.Disk)}
}

// kill lets a disk die.
func kill(t *testing.T, d *block.Disk) {
	t.Helper()
	ok(t, d.Arm(0))
	if d.Flush() != api.ErrDown || !d.Dead() {
		t.Fatal("the disk lives")
	}
}

func TestP11_2OfNoDisk(t *testing.T) {
	for _, d := range noDisks() {
		wantNoFind(t, d, api.ErrNil)
	}
}

func TestP11_2DisksError(t *testing.T) {
	wantNoFind(t, newDisk(t, 1), api.ErrRange)
	wantNoFind(t, newDisk(t, 1, form(middle())), api.ErrRange)
	for _, d := range []*block.Disk{newDisk(t, 1), newDisk(t, 2), newDisk(t, 2, form(gen(0, 5)), form(gen(1, 6)))} {
		kill(t, d)
		wantNoFind(t, d, api.ErrDown)
	}
}

func TestP11_2OfNone(t *testing.T) {
	whole := form(middle())
	long := append(bytes.Clone(whole[:127]), 1)
	for _, n := range []int{2, 3, 64, 16384} {
		wantNoFind(t, newDisk(t, n), api.ErrFormat)
	}
	wantNoFind(t, newDisk(t, 2, whole[:47], long), api.ErrFormat)
	wantNoFind(t, newDisk(t, 2, bytes.Repeat([]byte{0xff}, 128), []byte("AMBR")), api.ErrFormat)
	wantNoFind(t, newDisk(t, 2, rawOf(of(1<<60+1, 0, 0, 0, 0, 0)).sector(), rawOf(of(1, 0, 0, 0, 1, 2)).sector()), api.ErrFormat)
	// it stands in no other sector
	wantNoFind(t, newDisk(t, 4, nil, nil, whole, whole), api.ErrFormat)
}

func TestP11_2OfOne(t *testing.T) {
	for _, s := range []api.Super{{}, lowest(), middle(), highest(), gen(4, 1)} {
		for _, other := range [][]byte{nil, []byte("AMBR"), rawOf(of(1<<60+1, 0, 0, 0, 0, 0)).sector(), form(highest())[:47], form(s)[:40]} {
			wantFind(t, newDisk(t, 2, form(s), other), s, 0)
			wantFind(t, newDisk(t, 2, other, form(s)), s, 1)
			wantFind(t, newDisk(t, 5, other, form(s), form(gen(1<<60, 1))), s, 1)
		}
	}
}

// The greater Gen counts, in whichever sector it stands, whether it has its place there or not; and nothing but it.
func TestP11_2OfTwo(t *testing.T) {
	gens := []int{0, 1, 2, 3, 4, 255, 256, 1<<32 - 1, 1 << 32, 1<<60 - 1, 1 << 60}
	for _, a := range gens {
		for _, b := range gens {
			x, y := of(a, 5, 6, 7, 8, 1), of(b, 5, 6, 7, 8, 1)
			for _, other := range []api.Super{y, of(b, 9, 9, 9, 9, 9), of(b, -1, 0, 0, 0, 0)} {
				d := newDisk(t, 2, form(x), form(other))
				if b > a {
					wantFind(t, d, other, 1)
				} else {
					wantFind(t, d, x, 0)
				}
			}
		}
	}
}

// What is pending is what a sector has.
func TestP11_2OfPending(t *testing.T) {
	d := newDisk(t, 2, form(gen(2, 5)), form(gen(1, 6)))
	ok(t, d.Write(1, form(gen(3, 7))))
	wantFind(t, d, gen(3, 7), 1)
	ok(t, d.Write(1, nil))
	wantFind(t, d, gen(2, 5), 0)
	ok(t, d.Write(0, nil))
	wantNoFind(t, d, api.ErrFormat)
	ok(t, d.Crash(nil))
	wantFind(t, d, gen(2, 5), 0)
}

func TestP11_2ChangesNothing(t *testing.T) {
	d := newDisk(t, 3, form(gen(2, 5)), form(gen(1, 6)))
	ok(t, d.Write(2, []byte("a")))
	ok(t, d.Arm(1))
	for range 5 {
		wantFind(t, d, gen(2, 5), 0)
	}
	if d.Pending() != 1 || d.Dead() {
		t.Error("Find wrote, or flushed")
	}
	ok(t, d.Write(2, []byte("b"))) // the fuse still has one
	if d.Write(2, nil) != api.ErrDown {
		t.Error("the fuse did not go off")
	}
}

// The example of the chapter.
func TestP11_3Example(t *testing.T) {
	d := newDisk(t, 2)
	wantNoFind(t, d, api.ErrFormat)
	wantSave(t, d, api.Super{Root: 5}, api.Super{Gen: 0, Root: 5})
	wantFind(t, d, api.Super{Gen: 0, Root: 5}, 0)
	wantSave(t, d, api.Super{Root: 6}, api.Super{Gen: 1, Root: 6})
	wantFind(t, d, api.Super{Gen: 1, Root: 6}, 1)
	ok(t, d.Arm(0))
	wantNoSave(t, d, api.Super{Root: 7}, api.ErrDown)
	wantNoFind(t, d, api.ErrDown)
	ok(t, d.Crash([]int{0, 1}))
	wantFind(t, d, api.Super{Gen: 1, Root: 6}, 1)
}

// Each super is written to its place alone, and kept; its Gen is the next one, whatever it was.
func TestP11_3Save(t *testing.T) {
	mine := []int{0, 1, 77, -1, -1 << 60, 1<<60 + 1, math.MaxInt, math.MinInt}
	d := newDisk(t, 4, nil, nil, []byte("x"), []byte("y"))
	places := [2][]byte{}
	for i, s := range rightSupers() {
		want := s
		want.Gen = i
		s.Gen = mine[i%len(mine)]
		wantSave(t, d, s, want)
		places[i%2] = form(want)
		if d.Pending() != 0 {
			t.Fatal("not all is flushed")
		}
		ok(t, d.Crash(nil))
		for k, b := range [][]byte{places[0], places[1], []byte("x"), []byte("y")} {
			wantBytes(t, d, k, b)
		}
		wantFind(t, d, want, i%2)
	}
}

// Where the last super is, and what its Gen is, tells the next one's Gen; that one's Gen tells its place.
func TestP11_3SaveBehind(t *testing.T) {
	for _, n := range []int{0, 1, 2, 3, 254, 255, 1<<32 - 1, 1 << 32, 1<<60 - 2, 1<<60 - 1} {
		for _, other := range [][]byte{nil, []byte("AMBR"), form(gen(n, 3)), form(gen(n/2, 4)), form(gen(0, 4))} {
			for at := range 2 {
				l := [][]byte{form(gen(n, 5)), other}
				if at == 1 {
					slices.Reverse(l)
				}
				d := newDisk(t, 2, l...)
				wantSave(t, d, gen(9, 6), gen(n+1, 6))
				l[(n+1)%2] = form(gen(n+1, 6))
				wantBytes(t, d, 0, l[0])
				wantBytes(t, d, 1, l[1])
				wantFind(t, d, gen(n+1, 6), (n+1)%2)
			}
		}
	}
}

func TestP11_3OfNoDisk(t *testing.T) {
	for _, d := range noDisks() {
		wantNoSave(t, d, middle(), api.ErrNil)
		wantNoSave(t, d, api.Super{Mark: 1}, api.ErrNil)
	}
}

// wantUntouched looks at a save that is refused, and at the disk, on which nothing was done: what is pending, and the fuse, stay.
func wantUntouched(t *testing.T, d *block.Disk, s api.Super, want api.Errno) {
	t.Helper()
	last := d.Size() - 1
	ok(t, d.Write(last, []byte("p")))
	before := d.Copy()
	pending := d.Pending()
	ok(t, d.Arm(1))
	wantNoSave(t, d, s, want)
	if d.Pending() != pending || d.Dead() {
		t.Fatalf("a refused Save did something: %d pending, dead: %v", d.Pending(), d.Dead())
	}
	for i := range d.Size() {
		b, _ := before.Read(i)
		wantBytes(t, d, i, b)
	}
	ok(t, d.Write(last, []byte("q"))) // the fuse still has one
	ok(t, d.Arm(0))
	wantNoSave(t, d, s, want)
	if d.Dead() {
		t.Fatal("the fuse went off")
	}
}

func TestP11_3FindsError(t *testing.T) {
	for _, s := range []api.Super{middle(), {Mark: 1}} {
		wantUntouched(t, newDisk(t, 1), s, api.ErrRange)
		wantUntouched(t, newDisk(t, 1, form(gen(1<<60, 2))), s, api.ErrRange)
		for _, n := range []int{1, 2} {
			d := newDisk(t, n)
			kill(t, d)
			wantNoSave(t, d, s, api.ErrDown)
		}
		d := newDisk(t, 2, form(gen(1<<60, 2)))
		kill(t, d)
		wantNoSave(t, d, s, api.ErrDown)
	}
}

// Behind the last Gen there is none: not for a super that is not right either.
func TestP11_3NoFurtherGen(t *testing.T) {
	for _, s := range []api.Super{middle(), highest(), {}, {Mark: 1}, {Root: -2}} {
		wantUntouched(t, newDisk(t, 3, form(gen(1<<60, 2))), s, api.ErrTime)
		wantUntouched(t, newDisk(t, 3, nil, form(gen(1<<60, 2))), s, api.ErrTime)
		wantUntouched(t, newDisk(t, 3, form(gen(1<<60, 2)), form(gen(1<<60-1, 2))), s, api.ErrTime)
	}
	d := newDisk(t, 2, nil, form(gen(1<<60-1, 2)))
	wantSave(t, d, gen(0, 3), gen(1<<60, 3))
	wantFind(t, d, gen(1<<60, 3), 0)
	for range 3 {
		wantNoSave(t, d, gen(0, 4), api.ErrTime)
		wantFind(t, d, gen(1<<60, 3), 0)
	}
}

func TestP11_3NotRight(t *testing.T) {
	disks := []*block.Disk{newDisk(t, 3), newDisk(t, 3, form(gen(0, 5))), newDisk(t, 3, form(gen(2, 5)), form(gen(1, 5))), newDisk(t, 3, nil, form(gen(1<<60-1, 5)))}
	n := 0
	for _, s := range wrongSupers() {
		s.Gen = 5
		if super.Check(s) == api.OK {
			continue // its Gen alone was wrong
		}
		n++
		for _, d := range disks {
			wantUntouched(t, d.Copy(), s, api.ErrArg)
		}
	}
	if n < 100 {
		t.Errorf("%d supers tell little", n)
	}
}

// A save is one write and one flush; the flush keeps what others left pending too.
func TestP11_3OneWriteOneFlush(t *testing.T) {
	for fuse := range 4 {
		d := newDisk(t, 3, form(gen(2, 5)), form(gen(1, 6)))
		ok(t, d.Write(2, []byte("a")))
		ok(t, d.Arm(fuse))
		if fuse < 2 {
			wantNoSave(t, d, gen(0, 7), api.ErrDown)
			if !d.Dead() || d.Pending() != 1+fuse {
				t.Errorf("fuse %d: %d pending, dead: %v", fuse, d.Pending(), d.Dead())
			}
			continue
		}
		wantSave(t, d, gen(0, 7), gen(3, 7))
		if d.Pending() != 0 || d.Dead() {
			t.Errorf("fuse %d: %d pending, dead: %v", fuse, d.Pending(), d.Dead())
		}
		ok(t, d.Crash(nil))
		wantBytes(t, d, 2, []byte("a"))
		wantBytes(t, d, 0, form(gen(2, 5)))
		wantBytes(t, d, 1, form(gen(3, 7)))
	}
}
