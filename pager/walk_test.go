package pager_test

import (
	"bytes"
	"slices"
	"testing"

	"ambry/api"
	"ambry/block"
	"ambry/pager"
)

// dice are numbers by a short rule.
type dice uint32

// below tells a number from 0 on, and below n.
func (s *dice) below(n int) int {
	*s = *s*1664525 + 1013904223
	return int(*s>>8) % n
}

// kind is what a page is, by the chapter's words.
type kind byte

const (
	free    kind = 'f'
	settled kind = 's'
	fresh   kind = 'w'
	old     kind = 'o'
)

// plain is a pager that keeps the chapter's words, one by one, over a disk of its own.
type plain struct {
	d     *block.Disk
	from  int
	kinds []kind
}

// of tells the numbers of the pages of a kind.
func (p *plain) of(k kind) []int {
	var l []int
	for i := range p.kinds {
		if p.kinds[i] == k {
			l = append(l, i)
		}
	}
	return l
}

func (p *plain) keep(l []int) api.Errno {
	for x, i := range l {
		if i < 0 || i >= len(p.kinds) {
			return api.ErrArg
		}
		for _, j := range l[:x] {
			if i == j {
				return api.ErrArg
			}
		}
	}
	for _, i := range l {
		if p.kinds[i] != free {
			return api.ErrExists
		}
	}
	for _, i := range l {
		p.kinds[i] = settled
	}
	return api.OK
}

// over writes a page's sectors.
func (p *plain) over(i int, b []byte) api.Errno {
	all := make([]byte, api.PageSize)
	copy(all, b)
	for k := 0; k < 8; k++ {
		if err := p.d.Write(p.from+8*i+k, all[128*k:128*k+128]); err != api.OK {
			return err
		}
	}
	return api.OK
}

func (p *plain) write(b []byte) (int, api.Errno) {
	if len(b) > 1024 {
		return 0, api.ErrBig
	}
	for i := range p.kinds {
		if p.kinds[i] != free {
			continue
		}
		if err := p.over(i, b); err != api.OK {
			return 0, err
		}
		p.kinds[i] = fresh
		return i, api.OK
	}
	return 0, api.ErrDisk
}

func (p *plain) rewrite(i int, b []byte) api.Errno {
	switch {
	case len(b) > 1024:
		return api.ErrBig
	case i < 0 || i >= len(p.kinds) || p.kinds[i] != fresh:
		return api.ErrNone
	}
	return p.over(i, b)
}

func (p *plain) read(i int) ([]byte, api.Errno) {
	switch {
	case i < 0 || i >= len(p.kinds):
		return nil, api.ErrRange
	case p.kinds[i] == free:
		return nil, api.ErrNone
	case p.d.Dead():
		return nil, api.ErrDown
	}
	var all []byte
	for k := 0; k < 8; k++ {
		b, _ := p.d.Read(p.from + 8*i + k)
		all = append(all, b...)
	}
	return all, api.OK
}

func (p *plain) release(i int) api.Errno {
	switch {
	case i < 0 || i >= len(p.kinds):
		return api.ErrRange
	case p.kinds[i] == fresh:
		p.kinds[i] = free
	case p.kinds[i] == settled:
		p.kinds[i] = old
	default:
		return api.ErrNone
	}
	return api.OK
}

// turn lets fresh pages be one kind, and old ones another.
func (p *plain) turn(freshTo, oldTo kind) {
	for i, k := range p.kinds {
		switch k {
		case fresh:
			p.kinds[i] = freshTo
		case old:
			p.kinds[i] = oldTo
		}
	}
}

// text tells some bytes, now and then as many as there may be, or more.
func (s *dice) text() []byte {
	n := s.below(40)
	switch s.below(8) {
	case 0:
		n = 1024 - s.below(3)
	case 1:
		n = s.below(1025)
	case 2:
		n = 128 * s.below(9)
	case 3:
		if s.below(4) == 0 {
			n = 1025 + s.below(3)
		}
	}
	b := make([]byte, n)
	for i := range b {
		b[i] = byte(s.below(256))
	}
	return b
}

// place tells a page's number, now and then one that is none.
func (s *dice) place(n int) int {
	if s.below(12) == 0 {
		return s.below(n+6) - 3
	}
	return s.below(n)
}

// shake does the same to both disks: a crash, a fuse, a flush.
func (s *dice) shake(t *testing.T, d, e *block.Disk) {
	t.Helper()
	switch s.below(3) {
	case 0:
		var keep []int
		for i := range d.Pending() {
			if s.below(2) == 0 {
				keep = append(keep, i)
			}
		}
		wantErr(t, "Crash", d.Crash(keep), e.Crash(keep))
	case 1:
		n := s.below(30) - 1
		wantErr(t, "Arm", d.Arm(n), e.Arm(n))
	default:
		wantErr(t, "Flush", d.Flush(), e.Flush())
	}
}

// step does the same to both.
func (s *dice) step(t *testing.T, p *pager.Pager, q *plain) {
	t.Helper()
	n := len(q.kinds)
	switch s.below(10) {
	case 0, 1, 2:
		b := s.text()
		i, err := p.Write(b)
		if wantI, want := q.write(b); i != wantI || err != want {
			t.Fatalf("Write of %d bytes = %d, %d, want %d, %d", len(b), i, err, wantI, want)
		}
	case 3:
		i, b := s.place(n), s.text()
		wantErr(t, "Rewrite", p.Rewrite(i, b), q.rewrite(i, b))
	case 4, 5, 6:
		i := s.place(n)
		wantErr(t, "Release", p.Release(i), q.release(i))
	case 7:
		if s.below(3) > 0 {
			return
		}
		var l []int
		for range s.below(4) {
			l = append(l, s.place(n))
		}
		wantErr(t, "Keep", p.Keep(l), q.keep(l))
	case 8:
		if s.below(2) == 0 {
			wantErr(t, "Settle", p.Settle(), api.OK)
			q.turn(settled, free)
		} else {
			wantErr(t, "Undo", p.Undo(), api.OK)
			q.turn(free, settled)
		}
	}
}

// wantSame looks at all that a pager tells.
func wantSame(t *testing.T, p *pager.Pager, q *plain) {
	t.Helper()
	pages{n: len(q.kinds), settled: q.of(settled), fresh: q.of(fresh), old: q.of(old)}.hold(t, p)
	for i := -1; i <= len(q.kinds); i++ {
		b, err := p.Read(i)
		if want, wantErr := q.read(i); !bytes.Equal(b, want) || err != wantErr {
			t.Fatalf("Read(%d): %.9q.., %d, want %.9q.., %d", i, b, err, want, wantErr)
		}
	}
}

// wantSameDisks looks at all sectors, whether they are pages' or not.
func wantSameDisks(t *testing.T, d, e *block.Disk) {
	t.Helper()
	if d.Dead() != e.Dead() || d.Pending() != e.Pending() {
		t.Fatalf("the disk is dead: %t, with %d pending; want %t, %d", d.Dead(), d.Pending(), e.Dead(), e.Pending())
	}
	for i := range d.Size() {
		b, _ := d.Read(i)
		if c, _ := e.Read(i); !bytes.Equal(b, c) {
			t.Fatalf("sector %d: %.9q.., want %.9q..", i, b, c)
		}
	}
}

// Long rows of calls, held against a pager of the chapter's words, on disks that die and crash.
func TestP9Walk(t *testing.T) {
	for seed := range 80 {
		s := dice(seed)
		n, from := 1+s.below(8), s.below(5)
		size := from + 8*n + s.below(5)
		d, q := newDisk(t, size), &plain{d: newDisk(t, size), from: from, kinds: slices.Repeat([]kind{free}, n)}
		p := newPager(t, d, from, n)
		for range 600 {
			if s.below(12) == 0 {
				s.shake(t, d, q.d)
			} else {
				s.step(t, p, q)
			}
			wantSame(t, p, q)
			if s.below(20) == 0 {
				wantSameDisks(t, d, q.d)
			}
		}
	}
}
