package ring_test

import (
	"math"
	"slices"
	"strings"
	"testing"

	"ambry/api"
	"ambry/block"
	"ambry/ring"
	"ambry/slot"
)

// newDisk tells a disk of n sectors.
func newDisk(t *testing.T, n int) *block.Disk {
	t.Helper()
	d, err := block.New(n)
	if err != api.OK {
		t.Fatalf("New(%d): Err %d", n, err)
	}
	return d
}

// open tells the ring of a region.
func open(t *testing.T, d *block.Disk, from, count, start, epoch int) *ring.Ring {
	t.Helper()
	r, err := ring.Open(d, from, count, start, epoch)
	if err != api.OK || r == nil {
		t.Fatalf("Open(from %d, count %d, start %d, epoch %d): Err %d, want OK", from, count, start, epoch, err)
	}
	return r
}

// wantOpenErr looks at an Open that is refused.
func wantOpenErr(t *testing.T, want api.Errno, d *block.Disk, from, count, start, epoch int) {
	t.Helper()
	r, err := ring.Open(d, from, count, start, epoch)
	if err != want || r != nil {
		t.Errorf("Open(from %d, count %d, start %d, epoch %d): Err %d, a ring %t; want Err %d and none", from, count, start, epoch, err, r != nil, want)
	}
}

// put writes a slot at a sector, by its bytes.
func put(t *testing.T, d *block.Disk, at int, s api.Slot) {
	t.Helper()
	b, err := slot.Bytes(s)
	if err != api.OK {
		t.Fatalf("Bytes(%+v): Err %d", s, err)
	}
	if err := d.Write(at, b); err != api.OK {
		t.Fatalf("Write(%d): Err %d", at, err)
	}
}

// one tells a slot that is a record by itself.
func one(epoch, seq int, data string) api.Slot {
	return api.Slot{Epoch: epoch, Seq: seq, First: true, Last: true, Data: data}
}

// slotsOf tells how many slots a record has.
func slotsOf(record string) int {
	return max(1, (len(record)+107)/108)
}

// long tells a record of n slots that no other label has.
func long(label string, n int) string {
	return label + strings.Repeat(label, 108*n)[:108*n-len(label)]
}

// want is what a ring is to tell.
type want struct {
	start, epoch, count int
	records             []string
}

// hold looks at all that a ring tells.
func (w want) hold(t *testing.T, r *ring.Ring) {
	t.Helper()
	next := w.start
	var l []api.Record
	for _, data := range w.records {
		l = append(l, api.Record{Seq: next, Next: next + slotsOf(data), Data: data})
		next += slotsOf(data)
	}
	if got := r.Records(); !slices.Equal(got, l) {
		t.Errorf("Records: %s, want %s", short(got), short(l))
	}
	if r.Start() != w.start || r.Next() != next || r.Epoch() != w.epoch || r.Room() != w.start+w.count-next {
		t.Errorf("Start %d, Next %d, Epoch %d, Room %d; want %d, %d, %d, %d",
			r.Start(), r.Next(), r.Epoch(), r.Room(), w.start, next, w.epoch, w.start+w.count-next)
	}
}

// short tells records by where they stand and how they begin.
func short(l []api.Record) string {
	var b strings.Builder
	for _, x := range l {
		b.WriteString(" " + x.Data[:min(4, len(x.Data))])
		if len(x.Data) > 4 {
			b.WriteString("..")
		}
	}
	return "[" + strings.TrimSpace(b.String()) + "]"
}

// wantErr looks at how a call was answered.
func wantErr(t *testing.T, call string, got, want api.Errno) {
	t.Helper()
	if got != want {
		t.Errorf("%s: Err %d, want %d", call, got, want)
	}
}

func TestP6NoRing(t *testing.T) {
	var none *ring.Ring
	for name, r := range map[string]*ring.Ring{"nil": none, "unmade": {}} {
		wantErr(t, name+": Append", r.Append("a"), api.ErrNil)
		wantErr(t, name+": Append of too much", r.Append(strings.Repeat("a", api.MaxRecord+1)), api.ErrNil)
		wantErr(t, name+": Sync", r.Sync(), api.ErrNil)
		wantErr(t, name+": Truncate", r.Truncate(0), api.ErrNil)
		wantErr(t, name+": Truncate beyond", r.Truncate(7), api.ErrNil)
		if len(r.Records()) != 0 || r.Start() != 0 || r.Next() != 0 || r.Epoch() != 0 || r.Room() != 0 {
			t.Errorf("%s: Records %v, Start %d, Next %d, Epoch %d, Room %d; want zero values", name, r.Records(), r.Start(), r.Next(), r.Epoch(), r.Room())
		}
	}
}

func TestP6Example(t *testing.T) {
	d := newDisk(t, 4)
	r := open(t, d, 0, 4, 0, 0)
	want{0, 1, 4, nil}.hold(t, r)
	for _, record := range []string{"a", "b"} {
		wantErr(t, "Append", r.Append(record), api.OK)
	}
	wantErr(t, "Sync", r.Sync(), api.OK)
	wantErr(t, "Append", r.Append("c"), api.OK)
	lost, kept := d.Copy(), d.Copy()
	lost.Crash(nil)
	r = open(t, lost, 0, 4, 0, 0)
	want{0, 2, 4, []string{"a", "b"}}.hold(t, r)
	kept.Crash([]int{0})
	r = open(t, kept, 0, 4, 0, 0)
	want{0, 2, 4, []string{"a", "b", "c"}}.hold(t, r)
	wantErr(t, "Append of three slots", r.Append(strings.Repeat("x", 217)), api.ErrLog)
	want{0, 2, 4, []string{"a", "b", "c"}}.hold(t, r)
}

func TestP6_1NoDisk(t *testing.T) {
	wantOpenErr(t, api.ErrNil, nil, 0, 4, 0, 0)
	wantOpenErr(t, api.ErrNil, nil, -1, 0, -1, -1)
	wantOpenErr(t, api.ErrNil, &block.Disk{}, 0, 4, 0, 0)
	wantOpenErr(t, api.ErrNil, &block.Disk{}, -1, 4, 0, 0)
}

func TestP6_1Arguments(t *testing.T) {
	d := newDisk(t, 6)
	for _, c := range [][4]int{
		{-1, 4, 0, 0}, {math.MinInt, 4, 0, 0}, {3, 4, 0, 0}, {6, 2, 0, 0}, {math.MaxInt, 2, 0, 0}, {math.MaxInt, math.MaxInt, 0, 0},
		{0, 1, 0, 0}, {0, 0, 0, 0}, {0, -1, 0, 0}, {2, math.MinInt, 0, 0}, {0, 7, 0, 0}, {1, math.MaxInt, 0, 0},
		{0, 4, -1, 0}, {0, 4, math.MinInt, 0}, {0, 4, 1<<60 + 1, 0}, {0, 4, math.MaxInt, 0},
		{0, 4, 0, -1}, {0, 4, 0, math.MinInt}, {0, 4, 0, 1<<31 - 1}, {0, 4, 0, 1 << 31}, {0, 4, 0, math.MaxInt},
	} {
		wantOpenErr(t, api.ErrArg, d, c[0], c[1], c[2], c[3])
	}
	want{0, 1, 6, nil}.hold(t, open(t, d, 0, 6, 0, 0))
	want{0, 1, 2, nil}.hold(t, open(t, d, 4, 2, 0, 0))
	want{3, 1<<31 - 1, 4, nil}.hold(t, open(t, d, 1, 4, 3, 1<<31-2))
	r := open(t, d, 0, 4, 1<<60, 0)
	if r.Start() != 1<<60 || r.Next() != 1<<60 {
		t.Errorf("Start %d, Next %d; want 2^60", r.Start(), r.Next())
	}
}

// A dead disk is told behind what the arguments are, and ahead of what stands on it.
func TestP6_1Dead(t *testing.T) {
	d := newDisk(t, 4)
	put(t, d, 1, one(1<<31-1, 1, "x"))
	d.Arm(0)
	d.Flush()
	wantOpenErr(t, api.ErrDown, d, 0, 4, 0, 0)
	wantOpenErr(t, api.ErrArg, d, 0, 5, 0, 0)
	wantOpenErr(t, api.ErrArg, d, 0, 4, 0, -1)
	d.Crash([]int{0})
	wantOpenErr(t, api.ErrTime, d, 0, 4, 0, 0)
}

// A slot of the last epoch counts wherever in the region it stands, whatever its Seq; outside it does not.
func TestP6_1LastEpoch(t *testing.T) {
	for at := range 6 {
		for _, seq := range []int{0, 1, 7, 1 << 60} {
			d := newDisk(t, 6)
			put(t, d, at, one(1<<31-1, seq, "x"))
			if at >= 1 && at < 5 {
				wantOpenErr(t, api.ErrTime, d, 1, 4, 0, 0)
			} else {
				want{0, 1, 4, nil}.hold(t, open(t, d, 1, 4, 0, 0))
			}
		}
	}
	d := newDisk(t, 4)
	put(t, d, 3, one(1<<31-2, 1<<60, "x"))
	r := open(t, d, 0, 4, 0, 0)
	want{0, 1<<31 - 1, 4, nil}.hold(t, r)
	wantErr(t, "Append", r.Append("a"), api.OK)
	wantOpenErr(t, api.ErrTime, d, 0, 4, 0, 0)
}

// The slots ahead of the first one that is not as P6.1 asks, at their places.
func TestP6_1Row(t *testing.T) {
	cut := func(s api.Slot, first, last bool) api.Slot {
		s.First, s.Last = first, last
		return s
	}
	for name, c := range map[string]struct {
		row   []api.Slot // from the place of the Seq 6 on
		epoch int        // by which it is opened
		next  int
		now   int // the epoch by which is written then
	}{
		"nothing":                {nil, 0, 6, 1},
		"nothing, opened by 5":   {nil, 5, 6, 6},
		"one":                    {[]api.Slot{one(3, 6, "a")}, 0, 7, 4},
		"one of just that epoch": {[]api.Slot{one(3, 6, "a")}, 3, 7, 4},
		"one below":              {[]api.Slot{one(3, 6, "a")}, 4, 6, 5},
		"second below":           {[]api.Slot{one(4, 6, "a"), one(3, 7, "b")}, 4, 7, 5},
		"rising":                 {[]api.Slot{one(1, 6, "a"), one(2, 7, "b"), one(2, 8, "c"), one(9, 9, "d")}, 1, 10, 10},
		"falling":                {[]api.Slot{one(1, 6, "a"), one(3, 7, "b"), one(2, 8, "c"), one(3, 9, "d")}, 1, 8, 4},
		"a round ahead":          {[]api.Slot{one(3, 2, "a"), one(3, 7, "b")}, 0, 6, 4},
		"a round behind":         {[]api.Slot{one(3, 10, "a"), one(8, 11, "b")}, 0, 6, 9},
		"another one's place":    {[]api.Slot{one(3, 6, "a"), one(3, 8, "b"), one(3, 7, "c")}, 0, 7, 4},
		"a hole":                 {[]api.Slot{one(3, 6, "a"), {}, one(5, 8, "c")}, 0, 7, 6},
		"a hole first":           {[]api.Slot{{}, one(3, 7, "b")}, 0, 6, 4},
		"next Seq behind a hole": {[]api.Slot{one(3, 6, "a"), {}, one(3, 7, "b")}, 0, 7, 4},
		"first Seq one later":    {[]api.Slot{{}, one(3, 6, "b")}, 0, 6, 4},
		"a record without end":   {[]api.Slot{one(3, 6, "a"), cut(one(3, 7, "b"), true, false)}, 0, 7, 4},
		"a record in a record":   {[]api.Slot{one(3, 6, "a"), cut(one(3, 7, "b"), true, false), one(3, 8, "c")}, 0, 7, 4},
		"no beginning":           {[]api.Slot{cut(one(3, 6, "a"), false, true), one(3, 7, "b")}, 0, 6, 4},
		"two epochs' record":     {[]api.Slot{cut(one(3, 6, "a"), true, false), cut(one(4, 7, "b"), false, true)}, 0, 6, 5},
		"one epoch's record":     {[]api.Slot{cut(one(4, 6, "a"), true, false), cut(one(4, 7, "b"), false, true)}, 0, 8, 5},
		"greatest out of order":  {[]api.Slot{one(3, 6, "a"), one(20, 100, "b"), one(1, 8, "c"), one(9, 0, "d")}, 0, 7, 21},
		"opened by the greatest": {[]api.Slot{one(3, 6, "a"), one(3, 7, "b")}, 1000, 6, 1001},
	} {
		d := newDisk(t, 6)
		for i, s := range c.row {
			if s != (api.Slot{}) {
				put(t, d, 1+(6+i)%4, s)
			}
		}
		r := open(t, d, 1, 4, 6, c.epoch)
		if r.Start() != 6 || r.Next() != c.next || r.Epoch() != c.now || r.Room() != 10-c.next {
			t.Errorf("%s: Start %d, Next %d, Epoch %d, Room %d; want 6, %d, %d, %d", name, r.Start(), r.Next(), r.Epoch(), r.Room(), c.next, c.now, 10-c.next)
		}
		records, _ := slot.Join(c.row[:c.next-6])
		if !slices.Equal(r.Records(), records) {
			t.Errorf("%s: Records %s, want %s", name, short(r.Records()), short(records))
		}
	}
}

// A sector with one turned bit is no slot, and neither its Seq nor its epoch counts.
func TestP6_1BrokenSlot(t *testing.T) {
	for bit := range 8 * api.SectorSize {
		d := newDisk(t, 2)
		b, _ := slot.Bytes(one(7, 0, "a"))
		b[bit/8] ^= 1 << (bit % 8)
		d.Write(0, b)
		want{0, 1, 2, nil}.hold(t, open(t, d, 0, 2, 0, 0))
	}
}

// No more than count slots are read, though the place behind is the first one's again.
func TestP6_1OnceRound(t *testing.T) {
	d := newDisk(t, 3)
	var all []string
	for seq := 5; seq < 8; seq++ {
		all = append(all, string(rune('a'+seq)))
		put(t, d, seq%3, one(2, seq, all[seq-5]))
	}
	want{5, 3, 3, all}.hold(t, open(t, d, 0, 3, 5, 0))
	want{6, 3, 3, all[1:]}.hold(t, open(t, d, 0, 3, 6, 0))
	want{8, 3, 3, nil}.hold(t, open(t, d, 0, 3, 8, 0))
}

// Slots outside the region are not its.
func TestP6_1OutsideOfRegion(t *testing.T) {
	d := newDisk(t, 6)
	for at := range 6 {
		put(t, d, at, one(2, at, "x"))
	}
	want{0, 3, 4, nil}.hold(t, open(t, d, 1, 4, 0, 0))
	put(t, d, 2, one(2, 0, "y"))
	put(t, d, 0, one(50, 0, "z"))
	put(t, d, 4, one(50, 0, "z"))
	want{0, 3, 2, []string{"y"}}.hold(t, open(t, d, 2, 2, 0, 0))
}

// Open neither writes nor flushes: not even a fuse that is at its end goes off.
func TestP6_1WritesNothing(t *testing.T) {
	d := newDisk(t, 4)
	put(t, d, 0, one(1, 0, "a"))
	put(t, d, 3, one(1, 1, "a"))
	d.Arm(0)
	for range 3 {
		want{0, 2, 4, []string{"a"}}.hold(t, open(t, d, 0, 4, 0, 0))
	}
	wantOpenErr(t, api.ErrArg, d, 0, 5, 0, 0)
	if d.Pending() != 2 || d.Dead() {
		t.Errorf("Pending %d, Dead %t; want 2, false", d.Pending(), d.Dead())
	}
}

// sectors tells what all sectors of a disk have.
func sectors(t *testing.T, d *block.Disk) []string {
	t.Helper()
	var l []string
	for i := range d.Size() {
		b, err := d.Read(i)
		if err != api.OK {
			t.Fatalf("Read(%d): Err %d", i, err)
		}
		l = append(l, string(b))
	}
	return l
}

// A record's slots stand at their places, by the ring's epoch; they are written one by one, in order, and nothing else is.
func TestP6_2Places(t *testing.T) {
	for start := range 9 {
		for _, n := range []int{1, 2, 3, 5} {
			d := newDisk(t, 8)
			r := open(t, d, 2, 5, start, 7)
			record := long("q", n)
			wantErr(t, "Append", r.Append(record), api.OK)
			want{start, 8, 5, []string{record}}.hold(t, r)
			if d.Pending() != n {
				t.Fatalf("%d pending writes, want %d", d.Pending(), n)
			}
			l, _ := slot.Cut(record, 8, start)
			for kept := range n + 1 {
				wantSlots(t, d, l, kept)
			}
		}
	}
}

// wantSlots looks at a copy of the disk behind a crash that kept the first writes alone: it has just the first slots.
func wantSlots(t *testing.T, d *block.Disk, l []api.Slot, kept int) {
	t.Helper()
	c := d.Copy()
	var keep []int
	plain := slices.Repeat([]string{strings.Repeat("\x00", 128)}, 8)
	for i, s := range l[:kept] {
		b, _ := slot.Bytes(s)
		keep = append(keep, i)
		plain[2+s.Seq%5] = string(b)
	}
	c.Crash(keep)
	if !slices.Equal(sectors(t, c), plain) {
		t.Errorf("the disk has other sectors, with %d writes of %d kept, from Seq %d on", kept, len(l), l[0].Seq)
	}
}

func TestP6_2Errors(t *testing.T) {
	d := newDisk(t, 160)
	r := open(t, d, 0, 160, 0, 0)
	wantErr(t, "too many bytes", r.Append(strings.Repeat("x", 1<<14+1)), api.ErrBig)
	want{0, 1, 160, nil}.hold(t, r)
	most := strings.Repeat("x", 1<<14) // 152 slots
	wantErr(t, "as many bytes as may be", r.Append(most), api.OK)
	wantErr(t, "no bytes", r.Append(""), api.OK)
	wantErr(t, "eight slots, where seven are left", r.Append(long("y", 8)), api.ErrLog)
	wantErr(t, "as many bytes as may be, without room", r.Append(most), api.ErrLog)
	wantErr(t, "too many bytes, without room", r.Append(strings.Repeat("x", 1<<14+1)), api.ErrBig)
	want{0, 1, 160, []string{most, ""}}.hold(t, r)
	wantErr(t, "seven slots, where seven are left", r.Append(long("z", 7)), api.OK)
	wantErr(t, "no bytes, without room", r.Append(""), api.ErrLog)
	want{0, 1, 160, []string{most, "", long("z", 7)}}.hold(t, r)
	if d.Pending() != 160 {
		t.Errorf("%d pending writes, want 160", d.Pending())
	}
	want{0, 2, 160, []string{most, "", long("z", 7)}}.hold(t, open(t, d, 0, 160, 0, 0))
}

// What is refused for its Seqs is told ahead of there being no room, and that ahead of the disk's being dead.
func TestP6_2OrderOfErrors(t *testing.T) {
	d := newDisk(t, 4)
	r := open(t, d, 0, 2, 1<<60-1, 0)
	wantErr(t, "three slots up to above MaxSeq", r.Append(long("x", 3)), api.ErrArg)
	d.Arm(0)
	d.Flush()
	wantErr(t, "three slots, dead", r.Append(long("x", 3)), api.ErrArg)
	wantErr(t, "too big, dead", r.Append(strings.Repeat("x", 1<<14+1)), api.ErrBig)
	wantErr(t, "two slots, dead", r.Append(long("x", 2)), api.ErrDown)
	d.Crash(nil)
	r = open(t, d, 0, 2, 0, 0)
	d.Arm(0)
	d.Flush()
	wantErr(t, "three slots of two, dead", r.Append(long("x", 3)), api.ErrLog)
	wantErr(t, "one slot, dead", r.Append("x"), api.ErrDown)
	want{0, 1, 2, nil}.hold(t, r)
}

func TestP6_2LastSeq(t *testing.T) {
	d := newDisk(t, 4)
	r := open(t, d, 0, 4, 1<<60-1, 0)
	if r.Room() != 2 {
		t.Errorf("Room %d where two Seqs are left, want 2", r.Room())
	}
	wantErr(t, "three slots", r.Append(long("a", 3)), api.ErrArg)
	wantErr(t, "one slot", r.Append("a"), api.OK)
	wantErr(t, "two slots", r.Append(long("b", 2)), api.ErrArg)
	if r.Next() != 1<<60 || r.Room() != 1 || len(r.Records()) != 1 {
		t.Errorf("Next %d, Room %d, %d records; want 2^60, 1, 1", r.Next(), r.Room(), len(r.Records()))
	}
	wantErr(t, "the last slot", r.Append("b"), api.OK)
	wantErr(t, "one above", r.Append(""), api.ErrArg)
	all := []api.Record{{Seq: 1<<60 - 1, Next: 1 << 60, Data: "a"}, {Seq: 1 << 60, Next: 1<<60 + 1, Data: "b"}}
	if !slices.Equal(r.Records(), all) || r.Next() != 1<<60+1 || r.Room() != 0 {
		t.Errorf("Records %s, Next %d, Room %d; want %s, 2^60 + 1, 0", short(r.Records()), r.Next(), r.Room(), short(all))
	}
	r = open(t, d, 0, 4, 1<<60-1, 0)
	if !slices.Equal(r.Records(), all) || r.Next() != 1<<60+1 || r.Room() != 0 {
		t.Errorf("found again: Records %s, Next %d, Room %d", short(r.Records()), r.Next(), r.Room())
	}
	wantErr(t, "Truncate", r.Truncate(1<<60+1), api.OK)
	if r.Start() != 1<<60+1 || r.Room() != 0 || len(r.Records()) != 0 {
		t.Errorf("Start %d, Room %d, %d records; want 2^60 + 1, 0, 0", r.Start(), r.Room(), len(r.Records()))
	}
	wantErr(t, "one above, all gone", r.Append("c"), api.ErrArg)
}

// Wherever within a record the disk dies: the ring is as it was, and what was written ahead is no record.
func TestP6_2Dies(t *testing.T) {
	for n := range 4 {
		for kept := range n + 1 {
			d := newDisk(t, 6)
			r := open(t, d, 1, 5, 0, 0)
			wantErr(t, "Append", r.Append("a"), api.OK)
			wantErr(t, "Sync", r.Sync(), api.OK)
			d.Arm(n)
			wantErr(t, "Append of four slots", r.Append(long("y", 4)), api.ErrDown)
			want{0, 1, 5, []string{"a"}}.hold(t, r)
			wantErr(t, "Append of a dead disk", r.Append("z"), api.ErrDown)
			wantErr(t, "Sync of a dead disk", r.Sync(), api.ErrDown)
			want{0, 1, 5, []string{"a"}}.hold(t, r)
			if d.Pending() != n {
				t.Fatalf("%d pending writes, want %d", d.Pending(), n)
			}
			d.Crash([]int{0, 1, 2}[:kept])
			r = open(t, d, 1, 5, 0, 0)
			want{0, 2, 5, []string{"a"}}.hold(t, r)
			wantErr(t, "Append behind it", r.Append("z"), api.OK)
			want{0, 3, 5, []string{"a", "z"}}.hold(t, open(t, d, 1, 5, 0, 0))
		}
	}
	d := newDisk(t, 4)
	r := open(t, d, 0, 4, 0, 0)
	d.Arm(4)
	wantErr(t, "Append of four slots, as many as may come", r.Append(long("y", 4)), api.OK)
	wantErr(t, "Sync then", r.Sync(), api.ErrDown)
	want{0, 1, 4, []string{long("y", 4)}}.hold(t, r)
}

func TestP6_3Sync(t *testing.T) {
	d := newDisk(t, 4)
	r := open(t, d, 0, 4, 0, 0)
	wantErr(t, "Sync of nothing", r.Sync(), api.OK)
	wantErr(t, "Append", r.Append(long("a", 3)), api.OK)
	if d.Pending() != 3 {
		t.Errorf("%d pending writes, want 3: Append does not flush", d.Pending())
	}
	wantErr(t, "Sync", r.Sync(), api.OK)
	if d.Pending() != 0 {
		t.Errorf("%d pending writes behind Sync", d.Pending())
	}
	d.Crash(nil)
	want{0, 2, 4, []string{long("a", 3)}}.hold(t, open(t, d, 0, 4, 0, 0))
	d.Arm(0)
	wantErr(t, "Sync that the disk dies in", r.Sync(), api.ErrDown)
	wantErr(t, "Sync of a dead disk", r.Sync(), api.ErrDown)
	want{0, 1, 4, []string{long("a", 3)}}.hold(t, r)
}

func TestP6_3Truncate(t *testing.T) {
	all := []string{"a", long("b", 3), "", long("d", 2)} // 10, 11 to 13, 14, 15 and 16
	first := map[int]int{10: 0, 11: 1, 14: 2, 15: 3, 17: 4}
	for seq := 0; seq < 30; seq++ {
		d := newDisk(t, 8)
		r := open(t, d, 0, 8, 10, 0)
		for _, record := range all {
			wantErr(t, "Append", r.Append(record), api.OK)
		}
		gone, ok := first[seq]
		if !ok {
			wantErr(t, "Truncate at no record", r.Truncate(seq), api.ErrRange)
			want{10, 1, 8, all}.hold(t, r)
			continue
		}
		wantErr(t, "Truncate", r.Truncate(seq), api.OK)
		want{seq, 1, 8, all[gone:]}.hold(t, r)
		wantErr(t, "Truncate again", r.Truncate(seq), api.OK)
		want{seq, 1, 8, all[gone:]}.hold(t, r)
		if seq > 10 {
			wantErr(t, "Truncate to what is gone", r.Truncate(10), api.ErrRange)
			want{seq, 1, 8, all[gone:]}.hold(t, r)
		}
		fresh := long("e", r.Room())
		wantErr(t, "Append of more than is left", r.Append(fresh+"e"), api.ErrLog)
		wantErr(t, "Append of all that is left", r.Append(fresh), api.OK)
		want{seq, 1, 8, append(slices.Clone(all[gone:]), fresh)}.hold(t, r)
		want{seq, 2, 8, append(slices.Clone(all[gone:]), fresh)}.hold(t, open(t, d, 0, 8, seq, 0))
	}
}

func TestP6_3TruncateWrong(t *testing.T) {
	d := newDisk(t, 4)
	r := open(t, d, 0, 4, 5, 0)
	for _, seq := range []int{math.MinInt, -1, 0, 4, 6, 1 << 60, 1<<60 + 1, math.MaxInt} {
		wantErr(t, "Truncate of a ring without records", r.Truncate(seq), api.ErrRange)
	}
	wantErr(t, "Truncate to the start", r.Truncate(5), api.OK)
	r.Append("a")
	r.Append("b")
	for _, seq := range []int{math.MinInt, -1, 0, 4, 8, 9, math.MaxInt} {
		wantErr(t, "Truncate outside", r.Truncate(seq), api.ErrRange)
	}
	want{5, 1, 4, []string{"a", "b"}}.hold(t, r)
}

// Truncate is not a matter of the disk: a dead one is no hindrance, and nothing of it changes.
func TestP6_3TruncateWritesNothing(t *testing.T) {
	d := newDisk(t, 4)
	r := open(t, d, 0, 4, 0, 0)
	r.Append("a")
	r.Append("b")
	before := sectors(t, d)
	d.Arm(0)
	wantErr(t, "Truncate", r.Truncate(1), api.OK)
	if d.Pending() != 2 || d.Dead() || !slices.Equal(sectors(t, d), before) {
		t.Errorf("Pending %d, Dead %t, or other sectors; want 2, false, the same", d.Pending(), d.Dead())
	}
	d.Flush()
	wantErr(t, "Truncate of a dead disk", r.Truncate(2), api.OK)
	wantErr(t, "Truncate of a dead disk, to nowhere", r.Truncate(1), api.ErrRange)
	want{2, 1, 4, nil}.hold(t, r)
	d.Crash([]int{0, 1})
	want{0, 2, 4, []string{"a", "b"}}.hold(t, open(t, d, 0, 4, 0, 0))
}

// What a ring tells of its records is new memory.
func TestP6_4MemoryIsOwn(t *testing.T) {
	d := newDisk(t, 8)
	r := open(t, d, 0, 8, 0, 0)
	r.Append("a")
	r.Append("b")
	r.Append("c")
	r.Truncate(1)
	l := r.Records()
	m := r.Records()
	clear(l)
	_ = append(l[:0], one3()...)
	want{1, 1, 8, []string{"b", "c"}}.hold(t, r)
	if len(m) != 2 || m[0].Data != "b" || m[1].Data != "c" {
		t.Errorf("another answer has changed: %s", short(m))
	}
	r.Append("d")
	r.Truncate(2)
	if len(m) != 2 || m[0].Data != "b" || m[1].Data != "c" {
		t.Errorf("an answer has changed with the ring: %s", short(m))
	}
	want{2, 1, 8, []string{"c", "d"}}.hold(t, r)
}

// one3 tells three records of nobody's.
func one3() []api.Record {
	return []api.Record{{Seq: 7}, {Seq: 8}, {Seq: 9}}
}

// A ring is not told of what another one over the same disk has; each tells what it found, or has appended.
func TestP6_4EachItsOwn(t *testing.T) {
	d := newDisk(t, 8)
	r, s := open(t, d, 0, 4, 0, 0), open(t, d, 4, 4, 3, 5)
	r.Append("a")
	s.Append("b")
	s.Append(long("c", 2))
	r.Sync()
	d.Crash(nil)
	want{0, 1, 4, []string{"a"}}.hold(t, r)
	want{3, 6, 4, []string{"b", long("c", 2)}}.hold(t, s)
	want{0, 2, 4, []string{"a"}}.hold(t, open(t, d, 0, 4, 0, 0))
	want{3, 7, 4, []string{"b", long("c", 2)}}.hold(t, open(t, d, 4, 4, 3, 5))
}
