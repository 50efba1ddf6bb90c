package alloc_test

import (
	"slices"
	"testing"

	"ambry/alloc"
	"ambry/api"
)

// plain is an alloc that keeps the chapter's words, one by one: whether each page is taken.
type plain []bool

// all tells whether there are k pages from i on, and each of them is taken, or is not.
func (p plain) all(i, k int, taken bool) bool {
	for page := i; page < i+k; page++ {
		if page >= len(p) || p[page] != taken {
			return false
		}
	}
	return true
}

// set takes k pages from i on, or frees them.
func (p plain) set(i, k int, taken bool) {
	for page := i; page < i+k; page++ {
		p[page] = taken
	}
}

func (p plain) take(k int) (int, api.Errno) {
	if k < 1 {
		return 0, api.ErrArg
	}
	for i := range p {
		if p.all(i, k, false) {
			p.set(i, k, true)
			return i, api.OK
		}
	}
	return 0, api.ErrDisk
}

func (p plain) claim(i int) api.Errno {
	if i < 0 || i >= len(p) {
		return api.ErrRange
	}
	if p[i] {
		return api.ErrExists
	}
	p[i] = true
	return api.OK
}

func (p plain) give(i, k int) api.Errno {
	switch {
	case k < 1:
		return api.ErrArg
	case i < 0 || i+k > len(p):
		return api.ErrRange
	case !p.all(i, k, true):
		return api.ErrNone
	}
	p.set(i, k, false)
	return api.OK
}

// rows tells each row of free pages whose page ahead, and page behind, is taken or is none.
func (p plain) rows() [][2]int {
	var l [][2]int
	for i, taken := range p {
		if taken || i > 0 && !p[i-1] {
			continue
		}
		k := 1
		for p.all(i, k+1, false) {
			k++
		}
		l = append(l, [2]int{i, k})
	}
	return l
}

// wantSame looks at all that an alloc tells.
func wantSame(t *testing.T, a *alloc.Alloc, p plain) {
	t.Helper()
	for i := -2; i < len(p)+2; i++ {
		if want := i >= 0 && i < len(p) && p[i]; a.Has(i) != want {
			t.Fatalf("Has(%d): %t, want %t", i, !want, want)
		}
	}
	free := 0
	for _, taken := range p {
		if !taken {
			free++
		}
	}
	if got, want := a.Rows(), p.rows(); !slices.Equal(got, want) || a.Free() != free {
		t.Fatalf("Rows %v, Free %d; want %v, %d", got, a.Free(), want, free)
	}
}

// made tells an alloc that was made by Claim, and a plain one, of which the pages are taken whose bits are set.
func made(t *testing.T, n, taken int) (*alloc.Alloc, plain) {
	t.Helper()
	a, p := newAlloc(t, n), make(plain, n)
	for i := range n {
		if taken>>i&1 == 1 {
			wantErr(t, "Claim", a.Claim(i), api.OK)
			p[i] = true
		}
	}
	return a, p
}

// Each call at each way in which few pages can be taken, on a copy, so that what it does can't be seen in the next one.
func TestP7_2To3EachState(t *testing.T) {
	for n := 1; n <= 7; n++ {
		for taken := range 1 << n {
			a, p := made(t, n, taken)
			for k := -1; k <= n+1; k++ {
				b, q := a.Copy(), slices.Clone(p)
				i, err := b.Take(k)
				if wantI, want := q.take(k); i != wantI || err != want {
					t.Fatalf("%v: Take(%d) = %d, %d, want %d, %d", p, k, i, err, wantI, want)
				}
				wantSame(t, b, q)
			}
			for i := -1; i <= n+1; i++ {
				b, q := a.Copy(), slices.Clone(p)
				wantErr(t, "Claim", b.Claim(i), q.claim(i))
				wantSame(t, b, q)
				for k := -1; k <= n+2; k++ {
					b, q := a.Copy(), slices.Clone(p)
					wantErr(t, "Give", b.Give(i, k), q.give(i, k))
					wantSame(t, b, q)
				}
			}
			wantSame(t, a, p)
		}
	}
}

// What is taken was free, and is told to nobody else until it is given.
func TestP7_4Apart(t *testing.T) {
	a := newAlloc(t, 300)
	s := dice(4)
	owner := make([]int, 300)
	var given [][2]int
	for turn := 1; turn < 5000; turn++ {
		if len(given) > 0 && s.below(2) == 0 {
			n := s.below(len(given))
			row := given[n]
			wantErr(t, "Give", a.Give(row[0], row[1]), api.OK)
			clear(owner[row[0] : row[0]+row[1]])
			given = slices.Delete(given, n, n+1)
			continue
		}
		k := 1 + s.below(80)
		i, err := a.Take(k)
		if err != api.OK {
			continue
		}
		for page := i; page < i+k; page++ {
			if owner[page] != 0 {
				t.Fatalf("turn %d: Take(%d) = %d, but %d was taken at turn %d", turn, k, i, page, owner[page])
			}
			owner[page] = turn
			wantErr(t, "Claim of what is taken", a.Claim(page), api.ErrExists)
		}
		given = append(given, [2]int{i, k})
	}
}

// Whatever is taken, and given in any order, leaves all as it was.
func TestP7_5Back(t *testing.T) {
	for seed := range 40 {
		s := dice(seed)
		n := 1 + s.below(200)
		a, p := newAlloc(t, n), make(plain, n)
		for range n / 3 {
			i := s.below(n)
			wantErr(t, "Claim", a.Claim(i), p.claim(i))
		}
		var taken [][2]int
		for range 20 {
			k := 1 + s.below(9)
			if i, err := a.Take(k); err == api.OK {
				taken = append(taken, [2]int{i, k})
			}
			if i := s.below(n); a.Claim(i) == api.OK {
				taken = append(taken, [2]int{i, 1})
			}
		}
		for len(taken) > 0 {
			x := s.below(len(taken))
			wantErr(t, "Give", a.Give(taken[x][0], taken[x][1]), api.OK)
			taken = slices.Delete(taken, x, x+1)
		}
		wantSame(t, a, p)
	}
}

// Where any free row is long enough Take takes, ahead of each other place at which as many are free.
func TestP7_6First(t *testing.T) {
	for seed := range 40 {
		s := dice(seed)
		n := 100 + s.below(100)
		a := newAlloc(t, n)
		for range n / 8 {
			a.Claim(s.below(n))
		}
		for k := 1; k <= n; k++ {
			b := a.Copy()
			rows := b.Rows()
			row := slices.IndexFunc(rows, func(x [2]int) bool { return x[1] >= k })
			if row < 0 {
				wantNoTake(t, b, k, api.ErrDisk)
				continue
			}
			wantTake(t, b, k, rows[row][0])
		}
	}
}

// dice are numbers by a short rule.
type dice uint32

// below tells a number from 0 on, and below n.
func (s *dice) below(n int) int {
	*s = *s*1664525 + 1013904223
	return int(*s>>8) % n
}

// place tells a page, or, seldom, what is near one.
func (s *dice) place(n int) int {
	if s.below(20) == 0 {
		return s.below(n+8) - 4
	}
	return s.below(n)
}

// size tells how many pages are asked for: mostly few.
func (s *dice) size(n int) int {
	if s.below(6) == 0 {
		return s.below(n+4) - 1
	}
	return s.below(8)
}

// step does the same to both.
func (s *dice) step(t *testing.T, a *alloc.Alloc, p plain) {
	t.Helper()
	n := len(p)
	switch s.below(8) {
	case 0, 1, 2:
		k := s.size(n)
		i, err := a.Take(k)
		if wantI, want := p.take(k); i != wantI || err != want {
			t.Fatalf("Take(%d) = %d, %d, want %d, %d", k, i, err, wantI, want)
		}
	case 3, 4:
		i := s.place(n)
		wantErr(t, "Claim", a.Claim(i), p.claim(i))
	default:
		i, k := s.place(n), s.size(n)
		wantErr(t, "Give", a.Give(i, k), p.give(i, k))
	}
}

// Long rows of calls, held against an alloc of the chapter's words; and now and then against copies, of which the older ones go on.
func TestP7Walk(t *testing.T) {
	for seed := range 60 {
		s := dice(seed)
		n := 1 + s.below(260)
		if seed%4 == 0 {
			n = 64 * (1 + s.below(4))
		}
		allocs, plains := []*alloc.Alloc{newAlloc(t, n)}, []plain{make(plain, n)}
		for turn := range 1000 {
			x := s.below(len(allocs))
			s.step(t, allocs[x], plains[x])
			if turn%250 == 249 {
				allocs, plains = append(allocs, allocs[x].Copy()), append(plains, slices.Clone(plains[x]))
			}
			for x := range allocs {
				wantSame(t, allocs[x], plains[x])
			}
		}
	}
}
