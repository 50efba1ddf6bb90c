package block_test

import (
	"slices"
	"strings"
	"testing"

	"ambry/api"
	"ambry/block"
)

// plainWrite is a write that is pending on a plain disk.
type plainWrite struct {
	at   int
	text string
}

// plain is a disk as the chapter's words tell it: texts, and no index.
type plain struct {
	kept    []string
	pending []plainWrite
	fuse    int
	dead    bool
}

func (p *plain) copy() *plain {
	return &plain{slices.Clone(p.kept), slices.Clone(p.pending), p.fuse, p.dead}
}

func (p *plain) has(i int) string {
	s := p.kept[i]
	for _, w := range p.pending {
		if w.at == i {
			s = w.text
		}
	}
	return s
}

// goesOff tells whether the fuse lets the plain disk die now.
func (p *plain) goesOff() bool {
	p.dead = p.fuse == 0
	if p.fuse > 0 {
		p.fuse--
	}
	return p.dead
}

func (p *plain) write(i int, s string) api.Errno {
	switch {
	case p.dead:
		return api.ErrDown
	case i < 0 || i >= len(p.kept):
		return api.ErrRange
	case len(s) > 128:
		return api.ErrBig
	case p.goesOff():
		return api.ErrDown
	}
	p.pending = append(p.pending, plainWrite{i, full(s)})
	return api.OK
}

func (p *plain) keep(stays func(n int) bool) {
	for n, w := range p.pending {
		if stays(n) {
			p.kept[w.at] = w.text
		}
	}
	p.pending = nil
}

func (p *plain) flush() api.Errno {
	if p.dead || p.goesOff() {
		return api.ErrDown
	}
	p.keep(func(int) bool { return true })
	return api.OK
}

func (p *plain) arm(n int) api.Errno {
	if p.dead {
		return api.ErrDown
	}
	p.fuse = n
	return api.OK
}

func (p *plain) crash(keep []int) api.Errno {
	p.keep(func(n int) bool { return slices.Contains(keep, n) })
	p.fuse, p.dead = -1, false
	return api.OK
}

// wantAlike holds a disk against a plain one.
func wantAlike(t *testing.T, d *block.Disk, p *plain) {
	t.Helper()
	wantState(t, d, len(p.pending), p.dead)
	for i := -1; i <= len(p.kept); i++ {
		b, err := d.Read(i)
		text, want := "", api.ErrRange
		if i >= 0 && i < len(p.kept) {
			text, want = p.has(i), api.OK
		}
		if p.dead {
			text, want = "", api.ErrDown
		}
		if string(b) != text || err != want {
			t.Fatalf("Read(%d) = %q, %d, want %q, %d", i, b, err, text, want)
		}
	}
}

// dice are numbers by a short rule.
type dice uint32

// below tells a number from 0 on, and below n.
func (s *dice) below(n int) int {
	*s = *s*1664525 + 1013904223
	return int(*s>>8) % n
}

// step does the same to a disk and to a plain one, and tells what both answer.
func step(s *dice, d *block.Disk, p *plain) (got, want api.Errno) {
	size := len(p.kept)
	switch c := s.below(100); {
	case c < 70:
		i := s.below(size)
		if s.below(30) == 0 {
			i = s.below(size+6) - 3
		}
		text := strings.Repeat(string(rune('a'+s.below(26))), s.below(130))
		return d.Write(i, []byte(text)), p.write(i, text)
	case c < 80:
		return d.Flush(), p.flush()
	case c < 88:
		n := s.below(9) - 2
		return d.Arm(n), p.arm(n)
	}
	var keep []int
	for range s.below(8) {
		keep = append(keep, s.below(len(p.pending)+4)-2)
	}
	return d.Crash(keep), p.crash(keep)
}

// Long rows of calls, held against a disk that is made by the chapter's words alone; and now and then against copies, of which the older ones go on.
func TestP4_1To8Walk(t *testing.T) {
	for seed := range 60 {
		s := dice(seed)
		size := 1 + seed%9
		disks := []*block.Disk{newDisk(t, size)}
		plains := []*plain{{kept: slices.Repeat([]string{full("")}, size), fuse: -1}}
		for n := range 600 {
			k := s.below(len(disks))
			if got, want := step(&s, disks[k], plains[k]); got != want {
				t.Fatalf("walk %d, step %d: Err %d, want %d", seed, n, got, want)
			}
			if n%100 == 99 {
				disks, plains = append(disks, disks[k].Copy()), append(plains, plains[k].copy())
			}
			for k := range disks {
				wantAlike(t, disks[k], plains[k])
			}
		}
	}
}
