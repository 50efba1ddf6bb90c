package alloc_test

import (
	"math"
	"slices"
	"testing"

	"ambry/alloc"
	"ambry/api"
)

// newAlloc tells an alloc of n pages, all free.
func newAlloc(t *testing.T, n int) *alloc.Alloc {
	t.Helper()
	a, err := alloc.New(n)
	if err != api.OK || a == nil {
		t.Fatalf("New(%d): Err %d, an alloc %t; want one", n, err, a != nil)
	}
	return a
}

// wantErr looks at how a call was answered.
func wantErr(t *testing.T, call string, got, want api.Errno) {
	t.Helper()
	if got != want {
		t.Errorf("%s: Err %d, want %d", call, got, want)
	}
}

// wantTake looks at a Take that is to take.
func wantTake(t *testing.T, a *alloc.Alloc, k, want int) {
	t.Helper()
	if i, err := a.Take(k); i != want || err != api.OK {
		t.Errorf("Take(%d) = %d, %d, want %d, 0", k, i, err, want)
	}
}

// wantNoTake looks at a Take that is to be refused.
func wantNoTake(t *testing.T, a *alloc.Alloc, k int, want api.Errno) {
	t.Helper()
	if i, err := a.Take(k); i != 0 || err != want {
		t.Errorf("Take(%d) = %d, %d, want 0, %d", k, i, err, want)
	}
}

// wantRows looks at the free rows of n pages, and at all else that is told of them.
func wantRows(t *testing.T, a *alloc.Alloc, n int, want ...[2]int) {
	t.Helper()
	if got := a.Rows(); !slices.Equal(got, want) {
		t.Errorf("Rows: %v, want %v", got, want)
	}
	taken := slices.Repeat([]bool{true}, n)
	free := 0
	for _, row := range want {
		free += row[1]
		for i := range row[1] {
			taken[row[0]+i] = false
		}
	}
	if got := a.Free(); got != free {
		t.Errorf("Free: %d, want %d", got, free)
	}
	for i := range n {
		if a.Has(i) != taken[i] {
			t.Errorf("Has(%d): %t, want %t", i, a.Has(i), taken[i])
		}
	}
}

// far are numbers that are no page's, nor may be added to without care.
var far = []int{math.MinInt, math.MinInt + 1, -1 << 32, -65, -64, -63, -1, 1 << 14, 1 << 32, 1 << 62, math.MaxInt - 63, math.MaxInt - 1, math.MaxInt}

func TestP7Example(t *testing.T) {
	a := newAlloc(t, 6)
	wantTake(t, a, 2, 0)
	wantTake(t, a, 3, 2)
	wantErr(t, "Give(0, 2)", a.Give(0, 2), api.OK)
	wantTake(t, a, 1, 0)
	wantNoTake(t, a, 2, api.ErrDisk)
	wantRows(t, a, 6, [2]int{1, 1}, [2]int{5, 1})
	wantErr(t, "Give(1, 1)", a.Give(1, 1), api.ErrNone)
	wantRows(t, a, 6, [2]int{1, 1}, [2]int{5, 1})
}

func TestP7NoAlloc(t *testing.T) {
	var none *alloc.Alloc
	for name, a := range map[string]*alloc.Alloc{"nil": none, "unmade": {}, "a copy of nil": none.Copy()} {
		for _, i := range append([]int{0, 1, 64}, far...) {
			wantNoTake(t, a, i, api.ErrNil)
			wantErr(t, name+": Claim", a.Claim(i), api.ErrNil)
			wantErr(t, name+": Give of 1", a.Give(i, 1), api.ErrNil)
			wantErr(t, name+": Give from 0", a.Give(0, i), api.ErrNil)
			if a.Has(i) {
				t.Errorf("%s: Has(%d)", name, i)
			}
		}
		if a.Free() != 0 || len(a.Rows()) != 0 || a.Copy() != nil {
			t.Errorf("%s: Free %d, Rows %v, a copy %t; want none", name, a.Free(), a.Rows(), a.Copy() != nil)
		}
	}
}

func TestP7_1New(t *testing.T) {
	for n := 1; n <= 300; n++ {
		wantRows(t, newAlloc(t, n), n, [2]int{0, n})
	}
	for _, n := range []int{1<<14 - 65, 1<<14 - 64, 1<<14 - 63, 1<<14 - 1, 1 << 14} {
		wantRows(t, newAlloc(t, n), n, [2]int{0, n})
	}
}

func TestP7_1NewRefused(t *testing.T) {
	for _, n := range []int{math.MinInt, -1 << 32, -64, -1, 0, 1<<14 + 1, 1<<14 + 64, 1 << 32, math.MaxInt} {
		if a, err := alloc.New(n); a != nil || err != api.ErrArg {
			t.Errorf("New(%d): Err %d, an alloc %t; want Err %d and none", n, err, a != nil, api.ErrArg)
		}
	}
}

// Two allocs share nothing.
func TestP7_1NewApart(t *testing.T) {
	a, b := newAlloc(t, 9), newAlloc(t, 9)
	wantTake(t, a, 4, 0)
	wantRows(t, b, 9, [2]int{0, 9})
	wantTake(t, b, 5, 0)
	wantRows(t, a, 9, [2]int{4, 5})
}

// The first row that is long enough, where there are some that are not, and such that are longer.
func TestP7_2Take(t *testing.T) {
	free := [][2]int{{1, 1}, {4, 2}, {60, 7}, {70, 3}, {120, 72}, {199, 1}}
	for k, want := range map[int]int{1: 1, 2: 4, 3: 60, 4: 60, 7: 60, 8: 120, 64: 120, 65: 120, 72: 120} {
		a := withFree(t, 200, free)
		wantTake(t, a, k, want)
		rows := slices.Clone(free)
		row := slices.IndexFunc(rows, func(x [2]int) bool { return x[0] == want })
		rows[row] = [2]int{want + k, rows[row][1] - k}
		rows = slices.DeleteFunc(rows, func(x [2]int) bool { return x[1] == 0 })
		wantRows(t, a, 200, rows...)
	}
	for _, k := range []int{73, 86, 87, 200, 201, 1 << 14, math.MaxInt} {
		a := withFree(t, 200, free)
		wantNoTake(t, a, k, api.ErrDisk)
		wantRows(t, a, 200, free...)
	}
}

// withFree tells an alloc of n pages, of which just those in the rows are free.
func withFree(t *testing.T, n int, rows [][2]int) *alloc.Alloc {
	t.Helper()
	a := newAlloc(t, n)
	wantTake(t, a, n, 0)
	for _, row := range rows {
		wantErr(t, "Give", a.Give(row[0], row[1]), api.OK)
	}
	wantRows(t, a, n, rows...)
	return a
}

func TestP7_2TakeRefused(t *testing.T) {
	for _, n := range []int{1, 2, 63, 64, 65, 128, 1 << 14} {
		a := newAlloc(t, n)
		for _, k := range []int{n + 1, n + 2, n + 63, n + 64, n + 128, 1<<14 + 1, 1 << 32, math.MaxInt} {
			wantNoTake(t, a, k, api.ErrDisk)
		}
		for _, k := range []int{0, -1, -64, -1 << 32, math.MinInt} {
			wantNoTake(t, a, k, api.ErrArg)
		}
		wantRows(t, a, n, [2]int{0, n})
		wantTake(t, a, n, 0)
		wantNoTake(t, a, 1, api.ErrDisk)
		wantNoTake(t, a, 0, api.ErrArg)
		wantNoTake(t, a, -1, api.ErrArg)
		wantRows(t, a, n)
	}
}

func TestP7_2Claim(t *testing.T) {
	a := newAlloc(t, 130)
	for _, i := range []int{0, 3, 63, 64, 127, 129} {
		wantErr(t, "Claim", a.Claim(i), api.OK)
		wantErr(t, "Claim again", a.Claim(i), api.ErrExists)
	}
	wantTake(t, a, 10, 4)
	wantErr(t, "Claim of what was taken", a.Claim(13), api.ErrExists)
	for _, i := range append([]int{130, 131, 191, 192, 193}, far...) {
		wantErr(t, "Claim of none", a.Claim(i), api.ErrRange)
	}
	wantRows(t, a, 130, [2]int{1, 2}, [2]int{14, 49}, [2]int{65, 62}, [2]int{128, 1})
	wantErr(t, "Give", a.Give(3, 1), api.OK)
	wantErr(t, "Claim of what was given", a.Claim(3), api.OK)
}

// What was taken at once may be given in pieces, and what was taken in pieces at once.
func TestP7_2Give(t *testing.T) {
	a := newAlloc(t, 200)
	wantTake(t, a, 150, 0)
	wantErr(t, "Give(60, 70)", a.Give(60, 70), api.OK)
	wantRows(t, a, 200, [2]int{60, 70}, [2]int{150, 50})
	wantErr(t, "Give(0, 1)", a.Give(0, 1), api.OK)
	wantRows(t, a, 200, [2]int{0, 1}, [2]int{60, 70}, [2]int{150, 50})
	wantErr(t, "Give(130, 20)", a.Give(130, 20), api.OK)
	wantRows(t, a, 200, [2]int{0, 1}, [2]int{60, 140})
	wantErr(t, "Give(1, 59)", a.Give(1, 59), api.OK)
	wantRows(t, a, 200, [2]int{0, 200})
	for range 100 {
		a.Take(2)
	}
	wantErr(t, "Give(0, 200)", a.Give(0, 200), api.OK)
	wantRows(t, a, 200, [2]int{0, 200})
}

// ErrArg is answered ahead of ErrRange, and this ahead of ErrNone.
func TestP7_2GiveRefused(t *testing.T) {
	a := newAlloc(t, 130)
	wantTake(t, a, 130, 0)
	a.Give(64, 2)
	for _, i := range append([]int{0, 64, 129, 130}, far...) {
		for _, k := range []int{0, -1, -64, -1 << 32, math.MinInt} {
			wantErr(t, "Give of none", a.Give(i, k), api.ErrArg)
		}
	}
	for _, i := range append([]int{130, 131, 192}, far...) {
		for _, k := range []int{1, 2, 64, 130, math.MaxInt} {
			wantErr(t, "Give of what there is not", a.Give(i, k), api.ErrRange)
		}
	}
	for _, c := range [][2]int{{-1, 2}, {-1, 131}, {0, 131}, {1, 130}, {64, 67}, {128, 3}, {129, 2}, {64, math.MaxInt}, {0, math.MaxInt}} {
		wantErr(t, "Give of what there is not", a.Give(c[0], c[1]), api.ErrRange)
	}
	for _, c := range [][2]int{{64, 1}, {65, 1}, {64, 2}, {63, 2}, {65, 2}, {0, 65}, {0, 130}, {65, 65}} {
		wantErr(t, "Give of what is free", a.Give(c[0], c[1]), api.ErrNone)
	}
	wantRows(t, a, 130, [2]int{64, 2})
}

func TestP7_3Has(t *testing.T) {
	for _, n := range []int{1, 63, 64, 65, 128, 1 << 14} {
		a := newAlloc(t, n)
		wantTake(t, a, n, 0)
		for _, i := range append([]int{n, n + 1, n + 63, n + 64, -n}, far...) {
			if a.Has(i) {
				t.Errorf("Has(%d) of %d pages", i, n)
			}
		}
		wantRows(t, a, n)
	}
}

// Rows that begin and end at each place near the words' ends.
func TestP7_3Rows(t *testing.T) {
	for _, n := range []int{64, 65, 127, 128, 129, 192, 193} {
		for from := range n {
			for to := from + 1; to <= n; to++ {
				a := newAlloc(t, n)
				wantTake(t, a, n, 0)
				wantErr(t, "Give", a.Give(from, to-from), api.OK)
				if got := a.Rows(); len(got) != 1 || got[0] != [2]int{from, to - from} || a.Free() != to-from {
					t.Fatalf("%d pages, free from %d to %d: Rows %v, Free %d", n, from, to-1, got, a.Free())
				}
			}
		}
	}
}

// Each second page is free: as many rows as there can be.
func TestP7_3ManyRows(t *testing.T) {
	for odd := range 2 {
		a := newAlloc(t, 1<<14)
		var want [][2]int
		for i := range 1 << 14 {
			if i%2 == odd {
				want = append(want, [2]int{i, 1})
			} else {
				wantErr(t, "Claim", a.Claim(i), api.OK)
			}
		}
		wantRows(t, a, 1<<14, want...)
		wantNoTake(t, a, 2, api.ErrDisk)
		for _, row := range want {
			wantTake(t, a, 1, row[0])
		}
		wantRows(t, a, 1<<14)
	}
}

// An answer is not shared: what is written into it is found in no other.
func TestP7_3RowsAnew(t *testing.T) {
	a := newAlloc(t, 9)
	a.Claim(4)
	for _, l := range [][][2]int{a.Rows(), a.Rows()} {
		l[0], l[1] = [2]int{7, 7}, [2]int{8, 8}
		_ = append(l, [2]int{9, 9})
		wantRows(t, a, 9, [2]int{0, 4}, [2]int{5, 4})
	}
}

func TestP7_3Copy(t *testing.T) {
	a := newAlloc(t, 130)
	wantTake(t, a, 70, 0)
	b := a.Copy()
	c := b.Copy()
	wantRows(t, b, 130, [2]int{70, 60})
	wantErr(t, "Give", a.Give(1, 2), api.OK)
	wantErr(t, "Claim", b.Claim(129), api.OK)
	wantTake(t, c, 60, 70)
	wantRows(t, a, 130, [2]int{1, 2}, [2]int{70, 60})
	wantRows(t, b, 130, [2]int{70, 59})
	wantRows(t, c, 130)
	wantErr(t, "Claim of no page of a copy", b.Claim(130), api.ErrRange)
	wantErr(t, "Give of no page of a copy", c.Give(129, 2), api.ErrRange)
}
