package slot_test

import (
	"fmt"
	"math"
	"slices"
	"strings"
	"testing"

	"ambry/api"
	"ambry/slot"
)

// cut tells a record's slots, which there are.
func cut(t *testing.T, record string, epoch, seq int) []api.Slot {
	t.Helper()
	l, err := slot.Cut(record, epoch, seq)
	if err != api.OK {
		t.Fatalf("Cut of %d bytes, %d, %d: Err %d", len(record), epoch, seq, err)
	}
	return l
}

// row tells the lists of slots as one.
func row(l ...[]api.Slot) []api.Slot {
	return slices.Concat(l...)
}

// begin, within, end and single tell a slot by where in a record it stands.
func begin(epoch, seq int, data string) api.Slot {
	return api.Slot{Epoch: epoch, Seq: seq, First: true, Data: data}
}

func within(epoch, seq int, data string) api.Slot {
	return api.Slot{Epoch: epoch, Seq: seq, Data: data}
}

func end(epoch, seq int, data string) api.Slot {
	return api.Slot{Epoch: epoch, Seq: seq, Last: true, Data: data}
}

func single(epoch, seq int, data string) api.Slot {
	return api.Slot{Epoch: epoch, Seq: seq, First: true, Last: true, Data: data}
}

func TestP5_3CutByHand(t *testing.T) {
	x := func(n int) string { return strings.Repeat("x", n) }
	cases := []struct {
		record     string
		epoch, seq int
		want       []api.Slot
	}{
		{"", 1, 5, []api.Slot{single(1, 5, "")}},
		{"", 0, 0, []api.Slot{single(0, 0, "")}},
		{"\x00", 0, 0, []api.Slot{single(0, 0, "\x00")}},
		{"ab", 2, 7, []api.Slot{single(2, 7, "ab")}},
		{x(107), 2, 7, []api.Slot{single(2, 7, x(107))}},
		{x(108), 2, 7, []api.Slot{single(2, 7, x(108))}},
		{x(108) + "y", 2, 7, []api.Slot{begin(2, 7, x(108)), end(2, 8, "y")}},
		{x(216), 2, 7, []api.Slot{begin(2, 7, x(108)), end(2, 8, x(108))}},
		{x(216) + "yz", 2, 7, []api.Slot{begin(2, 7, x(108)), within(2, 8, x(108)), end(2, 9, "yz")}},
	}
	for _, c := range cases {
		if got := cut(t, c.record, c.epoch, c.seq); !slices.Equal(got, c.want) {
			t.Errorf("Cut of %d bytes, %d, %d = %+v, want %+v", len(c.record), c.epoch, c.seq, got, c.want)
		}
	}
}

// wantCut looks at each slot of a record by the chapter's words.
func wantCut(t *testing.T, record string, epoch, seq int) {
	t.Helper()
	l := cut(t, record, epoch, seq)
	if want := max(1, (len(record)+107)/108); len(l) != want {
		t.Fatalf("Cut of %d bytes: %d slots, want %d", len(record), len(l), want)
	}
	whole := ""
	for i, s := range l {
		if slot.Check(s) != api.OK || s.Epoch != epoch || s.Seq != seq+i || s.First != (i == 0) || s.Last != (i == len(l)-1) {
			t.Fatalf("slot %d of %d bytes, %d, %d: %+v", i, len(record), epoch, seq, s)
		}
		if !s.Last && len(s.Data) != 108 {
			t.Fatalf("slot %d of %d bytes has %d", i, len(record), len(s.Data))
		}
		whole += s.Data
	}
	if whole != record {
		t.Fatalf("the slots of %d bytes have %d others", len(record), len(whole))
	}
}

func TestP5_3Cut(t *testing.T) {
	for size := range 700 {
		wantCut(t, mixed(size, uint32(size)), 3, 50)
	}
	for _, size := range []int{0, 1, 108, 109, 216, 217, 1<<14 - 77, 1<<14 - 76, 1<<14 - 75, 1<<14 - 1, 1 << 14} {
		for _, epoch := range rightEpochs {
			wantCut(t, mixed(size, 1), epoch, 9)
		}
		for _, seq := range rightSeqs {
			if seq <= 1<<60-152 {
				wantCut(t, mixed(size, 2), 1, seq)
			}
		}
		wantCut(t, mixed(size, 3), 1<<31-1, 1<<60-max(1, (size+107)/108)+1)
	}
}

// wantNoCut looks at a record that can't be cut so.
func wantNoCut(t *testing.T, size, epoch, seq int, want api.Errno) {
	t.Helper()
	if l, err := slot.Cut(strings.Repeat("x", size), epoch, seq); len(l) != 0 || err != want {
		t.Errorf("Cut of %d bytes, %d, %d: %d slots, %d, want %d", size, epoch, seq, len(l), err, want)
	}
}

func TestP5_3CutRefused(t *testing.T) {
	for _, size := range []int{1<<14 + 1, 1<<14 + 108, 1 << 15, 1 << 20} {
		wantNoCut(t, size, 0, 0, api.ErrBig)
		wantNoCut(t, size, -1, 0, api.ErrBig)
		wantNoCut(t, size, 0, -1, api.ErrBig)
		wantNoCut(t, size, math.MaxInt, math.MaxInt, api.ErrBig)
	}
	for _, size := range []int{0, 1, 108, 109, 217, 1 << 14} {
		for _, epoch := range wrongEpochs {
			wantNoCut(t, size, epoch, 0, api.ErrArg)
		}
		for _, seq := range wrongSeqs {
			wantNoCut(t, size, 0, seq, api.ErrArg)
		}
		wantNoCut(t, size, -1, -1, api.ErrArg)
		// the last slot's Seq is one too many
		wantNoCut(t, size, 0, 1<<60-max(1, (size+107)/108)+2, api.ErrArg)
	}
	wantNoCut(t, 109, 0, 1<<60, api.ErrArg)
	wantNoCut(t, 1<<14, 0, 1<<60-150, api.ErrArg)
	// the first slots have no right Seq, but the last one has
	wantNoCut(t, 109, 0, -1, api.ErrArg)
	wantNoCut(t, 1<<14, 0, -100, api.ErrArg)
}

func TestP5_3MemoryIsOwn(t *testing.T) {
	a, b := cut(t, mixed(300, 1), 1, 2), cut(t, mixed(300, 1), 1, 2)
	clear(a[:cap(a)])
	if !slices.Equal(b, cut(t, mixed(300, 1), 1, 2)) {
		t.Error("two answers share memory")
	}
}

// short tells a list by the beginning of its text.
func short(l any) string {
	return fmt.Sprintf("%.300s", fmt.Sprintf("%+v", l))
}

// wantJoin looks at the records of slots, and the Seq behind them.
func wantJoin(t *testing.T, l []api.Slot, next int, want ...api.Record) {
	t.Helper()
	got, n := slot.Join(l)
	if !slices.Equal(got, want) || n != next {
		t.Errorf("Join(%s) = %s, %d, want %s, %d", short(l), short(got), n, short(want), next)
	}
}

func TestP5_4Join(t *testing.T) {
	wantJoin(t, nil, 0)
	wantJoin(t, []api.Slot{}, 0)
	wantJoin(t, []api.Slot{single(0, 0, "")}, 1, api.Record{Seq: 0, Next: 1})
	wantJoin(t, []api.Slot{single(3, 7, "ab")}, 8, api.Record{Seq: 7, Next: 8, Data: "ab"})
	wantJoin(t, []api.Slot{begin(3, 7, "ab"), end(3, 8, "c")}, 9, api.Record{Seq: 7, Next: 9, Data: "abc"})
	wantJoin(t, []api.Slot{begin(3, 7, "ab"), within(3, 8, ""), within(3, 9, "\x00"), end(3, 10, "c")}, 11, api.Record{Seq: 7, Next: 11, Data: "ab\x00c"})
	two := []api.Record{{Seq: 7, Next: 9, Data: "abc"}, {Seq: 9, Next: 10, Data: "d"}}
	l := []api.Slot{begin(3, 7, "ab"), end(3, 8, "c"), single(3, 9, "d"), begin(3, 10, "e"), within(3, 11, "f")}
	wantJoin(t, l, 10, two...)
	wantJoin(t, l[:4], 10, two...)
	wantJoin(t, l[:3], 10, two...)
	wantJoin(t, l[:2], 9, two[:1]...)
	wantJoin(t, l[:1], 7)
}

func TestP5_4JoinOfTheExample(t *testing.T) {
	a, b := cut(t, mixed(109, 1), 1, 5), cut(t, mixed(250, 2), 1, 7)
	wantJoin(t, row(a, b[:1]), 7, api.Record{Seq: 5, Next: 7, Data: mixed(109, 1)})
}

// a record is joined of whatever room its slots fill, and however long it gets.
func TestP5_4JoinOfMoreThanMaxRecord(t *testing.T) {
	l, whole := []api.Slot{begin(1, 0, "")}, ""
	for i := 1; i <= 400; i++ {
		data := mixed(i%109, uint32(i))
		l, whole = append(l, within(1, i, data)), whole+data
	}
	wantJoin(t, l, 0)
	wantJoin(t, append(l, end(1, 401, "")), 402, api.Record{Seq: 0, Next: 402, Data: whole})
}

func TestP5_4JoinAtTheLimits(t *testing.T) {
	l := []api.Slot{single(1<<31-1, 1<<60-1, "a"), single(1<<31-1, 1<<60, "b"), single(1<<31-1, 1<<60+1, "c")}
	wantJoin(t, l, 1<<60+1, api.Record{Seq: 1<<60 - 1, Next: 1 << 60, Data: "a"}, api.Record{Seq: 1 << 60, Next: 1<<60 + 1, Data: "b"})
	wantJoin(t, []api.Slot{end(0, math.MaxInt, "a"), single(0, math.MinInt, "b")}, 0)
}

// what stands behind the first slot that is not right, or does not follow, counts for nothing, right as it may be.
func TestP5_4JoinUpToWhatIsNotRight(t *testing.T) {
	ahead := []api.Slot{begin(3, 7, "ab"), end(3, 8, "c")}
	whole := api.Record{Seq: 7, Next: 9, Data: "abc"}
	for _, s := range wrongSlots() {
		wantJoin(t, []api.Slot{s, single(s.Epoch, s.Seq+1, "d")}, 0)
	}
	for _, epoch := range wrongEpochs {
		wantJoin(t, row(ahead, []api.Slot{single(epoch, 9, "d"), single(epoch, 10, "e")}), 9, whole)
	}
	for _, size := range wrongSizes {
		wantJoin(t, row(ahead, []api.Slot{single(3, 9, mixed(size, 1)), single(3, 10, "e")}), 9, whole)
	}
	big := strings.Repeat("x", 109)
	wantJoin(t, []api.Slot{begin(3, 7, "ab"), within(3, 8, big), end(3, 9, "c"), single(3, 10, "d")}, 7)
	wantJoin(t, row(ahead, []api.Slot{single(3, 9, big), single(3, 10, "d")}), 9, whole)
	wantJoin(t, []api.Slot{single(3, 7, big)}, 0)
	wantJoin(t, []api.Slot{single(-1, 7, "")}, 0)
	wantJoin(t, []api.Slot{single(3, -1, ""), single(3, 0, "")}, 0)
}

func TestP5_4JoinUpToAnotherSeq(t *testing.T) {
	ahead := []api.Slot{begin(3, 7, "ab"), end(3, 8, "c")}
	for _, seq := range append([]int{0, 7, 8, 10, 11, 9 + 16}, wrongSeqs...) {
		wantJoin(t, row(ahead, []api.Slot{single(3, seq, "d")}), 9, api.Record{Seq: 7, Next: 9, Data: "abc"})
		wantJoin(t, row(ahead, []api.Slot{single(3, seq, "d"), single(3, seq+1, "e")}), 9, api.Record{Seq: 7, Next: 9, Data: "abc"})
		if seq != 8 {
			wantJoin(t, []api.Slot{begin(3, 7, "ab"), end(3, seq, "c"), single(3, 9, "d")}, 7)
		}
	}
}

func TestP5_4JoinOfOtherEpochs(t *testing.T) {
	ahead := []api.Slot{begin(3, 7, "ab"), end(3, 8, "c")}
	whole := api.Record{Seq: 7, Next: 9, Data: "abc"}
	for _, epoch := range []int{3, 4, 5, 1 << 20, 1<<31 - 1} {
		l := row(ahead, []api.Slot{begin(epoch, 9, "d"), end(epoch, 10, "e"), single(epoch, 11, "f")})
		wantJoin(t, l, 12, whole, api.Record{Seq: 9, Next: 11, Data: "de"}, api.Record{Seq: 11, Next: 12, Data: "f"})
	}
	for _, epoch := range []int{0, 1, 2, -1, 1 << 31} {
		wantJoin(t, row(ahead, []api.Slot{single(epoch, 9, "d"), single(3, 10, "e")}), 9, whole)
	}
	for _, epoch := range []int{0, 2, 4, 1<<31 - 1} {
		wantJoin(t, []api.Slot{begin(3, 7, "ab"), end(epoch, 8, "c"), single(epoch, 9, "d")}, 7)
		wantJoin(t, []api.Slot{begin(3, 7, "ab"), within(epoch, 8, "c"), end(epoch, 9, "d")}, 7)
		wantJoin(t, []api.Slot{begin(3, 7, "ab"), within(epoch, 8, "c"), end(3, 9, "d")}, 7)
	}
	// it is the one just ahead that counts, not the first one
	wantJoin(t, row(ahead, []api.Slot{single(5, 9, "d"), single(4, 10, "e")}), 10, whole, api.Record{Seq: 9, Next: 10, Data: "d"})
}

func TestP5_4JoinUpToWhereItCannotStand(t *testing.T) {
	ahead := []api.Slot{begin(3, 7, "ab"), end(3, 8, "c")}
	whole := api.Record{Seq: 7, Next: 9, Data: "abc"}
	for _, epoch := range []int{3, 4} {
		wantJoin(t, []api.Slot{begin(3, 7, "ab"), single(epoch, 8, "c"), single(epoch, 9, "d")}, 7)
		wantJoin(t, []api.Slot{begin(3, 7, "ab"), begin(epoch, 8, "c"), end(epoch, 9, "d")}, 7)
		wantJoin(t, row(ahead, []api.Slot{begin(3, 9, "d"), within(3, 10, "e"), single(epoch, 11, "f"), single(epoch, 12, "g")}), 9, whole)
	}
	for _, s := range []api.Slot{within(3, 9, "d"), end(3, 9, "d")} {
		wantJoin(t, row(ahead, []api.Slot{s}), 9, whole)
		wantJoin(t, row(ahead, []api.Slot{s, single(3, 10, "e")}), 9, whole)
		wantJoin(t, row(ahead, []api.Slot{s, end(3, 10, "e"), single(3, 11, "f")}), 9, whole)
		wantJoin(t, []api.Slot{s, single(3, 10, "e"), single(3, 11, "f")}, 9)
		wantJoin(t, []api.Slot{s}, 9)
	}
}

func TestP5_4ArgumentsStay(t *testing.T) {
	l := []api.Slot{begin(3, 7, "ab"), end(3, 8, "c"), single(3, 9, "d")}
	kept := slices.Clone(l)
	a, n := slot.Join(l[:2])
	if !slices.Equal(l, kept) {
		t.Error("Join changed what was handed in, or what stands behind it")
	}
	if len(a) != 1 || n != 9 {
		t.Errorf("the answer hangs on what stands behind the end: %v, %d", a, n)
	}
	b, _ := slot.Join(l[:2])
	clear(a[:cap(a)])
	clear(l)
	if !slices.Equal(b, []api.Record{{Seq: 7, Next: 9, Data: "abc"}}) {
		t.Errorf("the answer hangs on what it was made of: %v", b)
	}
}

func TestP5_5RecordsThereAndBack(t *testing.T) {
	for first := range 6 {
		var l []api.Slot
		var whole []api.Record
		seq, epoch := 1000*first, first%2
		for i, size := range []int{0, 109, 1, 108, 216, 0, 0, 217, 1 << 14, 300, 324, 2} {
			if i%(first+1) == first {
				epoch += i
			}
			record := mixed(size, uint32(i))
			piece := cut(t, record, epoch, seq)
			for less := range piece {
				if len(l)+less == 0 {
					continue // without a slot there is no Seq
				}
				wantJoin(t, row(l, piece[:less]), seq, whole...)
			}
			l, whole = row(l, piece), append(whole, api.Record{Seq: seq, Next: seq + len(piece), Data: record})
			seq += len(piece)
			wantJoin(t, l, seq, whole...)
		}
	}
}
