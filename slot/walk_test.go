package slot_test

import (
	"testing"

	"ambry/api"
	"ambry/slot"
)

// dice are numbers by a short rule.
type dice uint32

// below tells a number from 0 on, and below n.
func (s *dice) below(n int) int {
	*s = *s*1664525 + 1013904223
	return int(*s>>8) % n
}

// some tells a row of slots most of which follow, and most of which stand where they can.
func (s *dice) some() []api.Slot {
	var l []api.Slot
	now := api.Slot{Epoch: 2 + s.below(3), Seq: s.below(3), First: true}
	for range s.below(12) {
		now.Last = s.below(2) == 0
		now.Data = mixed(s.below(4), uint32(s.below(100)))
		l = append(l, now)
		now.Seq++
		now.First = now.Last
		if now.First && s.below(3) == 0 {
			now.Epoch++
		}
		switch s.below(40) {
		case 0:
			now.First = !now.First
		case 1:
			now.Seq += s.below(5) - 2
		case 2:
			now.Epoch += s.below(5) - 2
		case 3:
			now.Data, now.Last = mixed(105+s.below(6), 1), true
			l = append(l, now)
			now.Seq, now.First = now.Seq+1, true
		}
	}
	return l
}

// goodUpTo tells how many slots are right, and each but the first one follows, as the chapter's words tell it.
func goodUpTo(l []api.Slot) int {
	n := 0
	for n < len(l) {
		s := l[n]
		right := s.Epoch >= 0 && s.Epoch < 1<<31 && s.Seq >= 0 && s.Seq <= 1<<60 && len(s.Data) <= 108
		behind := n == 0 || s.Seq == l[n-1].Seq+1 && (s.Epoch == l[n-1].Epoch || s.First && s.Epoch >= l[n-1].Epoch)
		if !right || !behind {
			break
		}
		n++
	}
	return n
}

// plainJoin joins record by record: each is looked for from its first slot to its last one.
func plainJoin(l []api.Slot) ([]api.Record, int) {
	l = l[:goodUpTo(l)]
	if len(l) == 0 {
		return nil, 0
	}
	next := l[0].Seq
	var records []api.Record
	for len(l) > 0 && l[0].First {
		size, data := 1, l[0].Data
		for size < len(l) && !l[size-1].Last && !l[size].First {
			data += l[size].Data
			size++
		}
		if !l[size-1].Last {
			break
		}
		records = append(records, api.Record{Seq: l[0].Seq, Next: l[0].Seq + size, Data: data})
		next = l[0].Seq + size
		l = l[size:]
	}
	return records, next
}

// Many rows of slots, held against a join that is made by the chapter's words alone.
func TestP5_4Walk(t *testing.T) {
	s, whole, broken := dice(1), 0, 0
	for range 40000 {
		l := s.some()
		records, next := plainJoin(l)
		wantJoin(t, l, next, records...)
		whole += len(records)
		if goodUpTo(l) < len(l) {
			broken++
		}
	}
	if whole < 40000 || broken < 4000 {
		t.Errorf("the rows tell little: %d records, %d broken off", whole, broken)
	}
}

// Whatever records are cut one behind the other, and wherever the row ends: the whole ones are there, by way of their slots' bytes.
func TestP5_5Walk(t *testing.T) {
	s := dice(2)
	for range 150 {
		var l []api.Slot
		var whole []api.Record
		seq, epoch := s.below(1<<30), s.below(5)
		start := seq
		for range 1 + s.below(6) {
			record := mixed(s.below(500)*s.below(2), uint32(s.below(1000)))
			piece := cut(t, record, epoch, seq)
			whole = append(whole, api.Record{Seq: seq, Next: seq + len(piece), Data: record})
			l, seq, epoch = row(l, piece), seq+len(piece), epoch+s.below(2)*s.below(9)
		}
		for end := range len(l) + 1 {
			wantWhole(t, l[:end], start, whole)
		}
	}
}

// wantWhole looks at those of the records that are whole in the slots, from start on.
func wantWhole(t *testing.T, l []api.Slot, start int, whole []api.Record) {
	t.Helper()
	var read []api.Slot
	for _, s := range l {
		b, _ := slot.Bytes(s)
		r, err := slot.Read(b)
		if err != api.OK {
			t.Fatalf("Read of the bytes of %+v: Err %d", s, err)
		}
		read = append(read, r)
	}
	n, next := 0, 0
	if len(l) > 0 {
		next = start
	}
	for n < len(whole) && whole[n].Next <= start+len(l) {
		next = whole[n].Next
		n++
	}
	wantJoin(t, read, next, whole[:n]...)
}
