package ring_test

import (
	"slices"
	"strings"
	"testing"

	"ambry/api"
	"ambry/block"
	"ambry/ring"
	"ambry/slot"
)

// dice are numbers by a short rule.
type dice uint32

// below tells a number from 0 on, and below n.
func (s *dice) below(n int) int {
	*s = *s*1664525 + 1013904223
	return int(*s>>8) % n
}

// some tells a row of numbers that are below n, each or not.
func (s *dice) some(n int) []int {
	var l []int
	for i := range n {
		if s.below(3) > 0 {
			l = append(l, i)
		}
	}
	return l
}

// plain is a ring that keeps the chapter's words, one by one, over a disk of its own.
type plain struct {
	d           *block.Disk
	from, count int
	start       int
	epoch       int
	records     []api.Record
}

// next tells the Seq behind the last record.
func (p *plain) next() int {
	if len(p.records) == 0 {
		return p.start
	}
	return p.records[len(p.records)-1].Next
}

// at tells the slot at the place of a Seq, whatever its own Seq is.
func (p *plain) at(seq int) (api.Slot, bool) {
	b, _ := p.d.Read(p.from + seq%p.count)
	s, err := slot.Read(b)
	return s, err == api.OK
}

// open finds the ring by the words of P6.1, where the arguments are as they may be.
func (p *plain) open(start, epoch int) api.Errno {
	if p.d.Dead() {
		return api.ErrDown
	}
	p.start, p.epoch, p.records = start, epoch, nil
	for i := range p.count {
		s, ok := p.at(i)
		if ok && s.Epoch == api.MaxEpoch {
			return api.ErrTime
		}
		if ok && s.Epoch > p.epoch {
			p.epoch = s.Epoch
		}
	}
	p.epoch++
	var l []api.Slot
	for len(l) < p.count {
		s, ok := p.at(start + len(l))
		if !ok || s.Seq != start+len(l) || s.Epoch < epoch || len(l) > 0 && s.Epoch < l[len(l)-1].Epoch {
			break
		}
		l = append(l, s)
	}
	p.records, _ = slot.Join(l)
	return api.OK
}

// append does what P6.2 says.
func (p *plain) append(record string) api.Errno {
	l, err := slot.Cut(record, p.epoch, p.next())
	if err != api.OK {
		return err
	}
	if p.next()+len(l) > p.start+p.count {
		return api.ErrLog
	}
	for _, s := range l {
		b, _ := slot.Bytes(s)
		if p.d.Write(p.from+s.Seq%p.count, b) == api.ErrDown {
			return api.ErrDown
		}
	}
	p.records = append(p.records, api.Record{Seq: p.next(), Next: p.next() + len(l), Data: record})
	return api.OK
}

// truncate does what P6.3 says.
func (p *plain) truncate(seq int) api.Errno {
	first := func(x api.Record) bool { return x.Seq == seq }
	if seq != p.start && seq != p.next() && !slices.ContainsFunc(p.records, first) {
		return api.ErrRange
	}
	next := p.next()
	p.records = slices.DeleteFunc(p.records, func(x api.Record) bool { return x.Seq < seq })
	if p.start = seq; p.next() != next {
		panic("the model is wrong")
	}
	return api.OK
}

// same looks at all that can be told of both.
func (p *plain) same(t *testing.T, r *ring.Ring, d *block.Disk) {
	t.Helper()
	if !slices.Equal(r.Records(), p.records) {
		t.Fatalf("Records %s, want %s", short(r.Records()), short(p.records))
	}
	room := p.start + p.count - p.next()
	if r.Start() != p.start || r.Next() != p.next() || r.Epoch() != p.epoch || r.Room() != room {
		t.Fatalf("Start %d, Next %d, Epoch %d, Room %d; want %d, %d, %d, %d", r.Start(), r.Next(), r.Epoch(), r.Room(), p.start, p.next(), p.epoch, room)
	}
	if d.Pending() != p.d.Pending() || d.Dead() != p.d.Dead() {
		t.Fatalf("Pending %d, Dead %t; want %d, %t", d.Pending(), d.Dead(), p.d.Pending(), p.d.Dead())
	}
	if !d.Dead() && !slices.Equal(sectors(t, d), sectors(t, p.d)) {
		t.Fatal("the disk has other sectors")
	}
}

// record tells one of any size that may stand in so many slots, or, seldom, in more.
func (s *dice) record(count int) string {
	n := s.below(4) * s.below(108*count/2)
	if s.below(3) == 0 {
		n = 108 * s.below(count+2)
	}
	return strings.Repeat(string(rune('a'+s.below(26))), n)
}

// Long rows of calls, with crashes that keep whatever they keep, held against a ring of the chapter's words.
func TestP6Walk(t *testing.T) {
	for seed := range 60 {
		s := dice(seed)
		count := 2 + s.below(9)
		p := &plain{from: s.below(3), count: count}
		n := p.from + count + s.below(3)
		d := newDisk(t, n)
		p.d = newDisk(t, n)
		start, epoch := s.below(3*count), s.below(3)
		r := open(t, d, p.from, count, start, epoch)
		p.open(start, epoch)
		for range 600 {
			switch s.below(12) {
			case 0, 1, 2, 3, 4, 5:
				record := s.record(count)
				wantErr(t, "Append", r.Append(record), p.append(record))
			case 6:
				wantErr(t, "Sync", r.Sync(), p.d.Flush())
			case 7, 8:
				seq := p.start + s.below(count+3) - 1
				wantErr(t, "Truncate", r.Truncate(seq), p.truncate(seq))
			case 9:
				n := s.below(6)
				wantErr(t, "Arm", d.Arm(n), p.d.Arm(n))
			case 10:
				keep := s.some(d.Pending())
				d.Crash(keep)
				p.d.Crash(keep)
			case 11:
				start = p.start
				if s.below(4) == 0 {
					start, epoch = max(0, start+s.below(5)-2), s.below(p.epoch+2)
				}
				now, got := ring.Open(d, p.from, count, start, epoch)
				if p.d.Dead() {
					wantErr(t, "Open of a dead disk", got, api.ErrDown)
					continue
				}
				wantErr(t, "Open", got, p.open(start, epoch))
				r = now
			}
			p.same(t, r, d)
		}
	}
}
