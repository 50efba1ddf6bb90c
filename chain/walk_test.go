package chain_test

import (
	"math"
	"slices"
	"strings"
	"testing"

	"ambry/api"
	"ambry/chain"
)

// plainAt tells what a chain has at a time, as the chapter's words have it.
func plainAt(l []api.Version, time int) (string, bool) {
	for _, v := range l {
		if v.Time <= time {
			return v.Val, !v.Del
		}
	}
	return "", false
}

// plainVacuum tells the versions that a Vacuum leaves.
func plainVacuum(l []api.Version, mark int) []api.Version {
	var left []api.Version
	for _, v := range l {
		if v.Time > mark {
			left = append(left, v)
			continue
		}
		if !v.Del {
			left = append(left, v)
		}
		break
	}
	return left
}

// plainRewind tells the versions that a Rewind leaves.
func plainRewind(l []api.Version, time int) []api.Version {
	return slices.DeleteFunc(slices.Clone(l), func(v api.Version) bool { return v.Time > time })
}

// smallChains hands on all chains of the times 1 to most at which there may be a version of a, of the empty value, or that is gone.
func smallChains(most int, each func(l []api.Version)) {
	ways := 1
	for range most {
		ways *= 4
	}
	for way := range ways {
		var l []api.Version
		for time, rest := most, way; time > 0; time, rest = time-1, rest/4 {
			switch rest % 4 {
			case 1:
				l = append(l, has(time, "a"))
			case 2:
				l = append(l, has(time, ""))
			case 3:
				l = append(l, gone(time))
			}
		}
		each(l)
	}
}

// dice are numbers that look thrown, and are the same ones each time.
type dice uint64

// below tells a number from 0 on, below n.
func (s *dice) below(n int) int {
	*s = *s*6364136223846793005 + 1442695040888963407
	return int((uint64(*s) >> 33) % uint64(n))
}

// chain tells a chain of at most so many versions, whose times stand close together or far apart.
func (s *dice) chain(most int) []api.Version {
	l := vers()
	step := 1 << s.below(50)
	time := 1 + s.below(3)
	for range s.below(most + 1) {
		switch s.below(4) {
		case 0:
			l = append(l, gone(time))
		default:
			l = append(l, has(time, strings.Repeat(string(rune('a'+s.below(26))), s.below(201))))
		}
		time += 1 + s.below(step)
	}
	slices.Reverse(l)
	return l
}

// times are all times at which a chain's answers may change, those next to them, and some that are far.
func times(l []api.Version) []int {
	at := slices.Clone(far)
	for _, v := range l {
		at = append(at, v.Time-1, v.Time, v.Time+1)
	}
	return at
}

// wantAll looks at all that is told of a chain, at the chapter's words.
func wantAll(t *testing.T, l []api.Version, at []int) {
	t.Helper()
	wantCheck(t, "a chain", l, api.OK)
	for _, time := range at {
		if val, ok := plainAt(l, time); ok {
			wantAt(t, l, time, val)
		} else {
			wantNothing(t, l, time)
		}
		wantSince(t, l, time, slices.ContainsFunc(l, func(v api.Version) bool { return v.Time > time }))
		wantVacuum(t, l, time, plainVacuum(l, time))
		wantRewind(t, l, time, plainRewind(l, time))
	}
}

func TestP13EachSmallChain(t *testing.T) {
	smallChains(5, func(l []api.Version) {
		wantAll(t, l, []int{math.MinInt, -1, 0, 1, 2, 3, 4, 5, 6, math.MaxInt})
		for time := range 8 {
			switch v := has(time, "b"); {
			case time == 0:
				wantNoAdd(t, "at 0", l, v, api.ErrArg)
			case len(l) > 0 && time <= l[0].Time:
				wantNoAdd(t, "not above the first one", l, v, api.ErrTime)
			default:
				wantAdd(t, l, v, append(vers(v), l...))
			}
		}
	})
}

func TestP13Walk(t *testing.T) {
	s := dice(13)
	for range 300 {
		l := s.chain(40)
		wantAll(t, l, times(l))
	}
	for range 3 {
		l := s.chain(400)
		wantAll(t, l, times(l))
	}
}

// sameFrom tells whether At tells the same of two chains, at all of the times that are not below from.
func sameFrom(a, b []api.Version, from int, at []int) bool {
	return !slices.ContainsFunc(at, func(time int) bool {
		was, there := chain.At(a, time)
		is, still := chain.At(b, time)
		return time >= from && (was != is || there != still)
	})
}

// wantSeen looks at what Vacuum changes: nothing from the mark on, and nothing more when it is done again.
func wantSeen(t *testing.T, l []api.Version, marks, at []int) {
	t.Helper()
	for _, mark := range marks {
		left := chain.Vacuum(l, mark)
		wantCheck(t, "what is left", left, api.OK)
		if !sameFrom(l, left, mark, at) {
			t.Errorf("Vacuum(%v, %d) = %v, which tells otherwise from %d on", l, mark, left, mark)
		}
		for _, again := range marks {
			if again <= mark {
				wantVacuum(t, left, again, left)
			}
		}
	}
}

func TestP13_4Seen(t *testing.T) {
	small := []int{math.MinInt, -1, 0, 1, 2, 3, 4, 5, 6, math.MaxInt}
	smallChains(5, func(l []api.Version) { wantSeen(t, l, small, small) })
	s := dice(4)
	for range 60 {
		l := s.chain(15)
		wantSeen(t, l, times(l), times(l))
	}
}

// Done by a mark that is greater, Vacuum leads to what that mark alone leads to.
func TestP13_4Greater(t *testing.T) {
	smallChains(5, func(l []api.Version) {
		for mark := range 7 {
			for greater := mark; greater < 7; greater++ {
				wantVacuum(t, chain.Vacuum(l, mark), greater, chain.Vacuum(l, greater))
			}
		}
	})
}

// wantGrown looks at what Add changes: nothing below v's time; and from then on there is v.
func wantGrown(t *testing.T, l []api.Version, v api.Version) {
	t.Helper()
	grown, err := chain.Add(l, v)
	if err != api.OK {
		t.Errorf("Add(%v, %v): Err %d, want 0", l, v, err)
		return
	}
	wantCheck(t, "grown", grown, api.OK)
	for _, time := range times(grown) {
		was, there := chain.At(l, time)
		if time >= v.Time {
			was, there = v.Val, !v.Del
		}
		if val, ok := chain.At(grown, time); val != was || ok != there {
			t.Errorf("At(Add(%v, %v), %d) = %q, %t, want %q, %t", l, v, time, val, ok, was, there)
		}
	}
}

// behind are versions that may be added to a chain.
func behind(l []api.Version) []api.Version {
	last := 0
	if len(l) > 0 {
		last = l[0].Time
	}
	return vers(has(last+1, "b"), has(last+1, ""), gone(last+1), has(last+2, "a"), gone(last+9), has(1<<60, long(200)), gone(1<<60))
}

func TestP13_5Grown(t *testing.T) {
	smallChains(4, func(l []api.Version) {
		for _, v := range behind(l) {
			wantGrown(t, l, v)
		}
	})
	s := dice(5)
	for range 100 {
		l := s.chain(30)
		for _, v := range behind(l) {
			wantGrown(t, l, v)
		}
	}
}

func TestP13_6Back(t *testing.T) {
	back := func(l []api.Version) {
		for _, v := range behind(l) {
			grown, _ := chain.Add(l, v)
			wantRewind(t, grown, v.Time-1, l)
			wantRewind(t, grown, v.Time, append(vers(v), l...))
		}
	}
	smallChains(5, back)
	s := dice(6)
	for range 100 {
		back(s.chain(30))
	}
}

// roomy tells a chain alike, with room behind its end, and something there.
func roomy(l []api.Version) []api.Version {
	return append(slices.Clone(l), has(99, "behind"), gone(98))[:len(l)]
}

// spoil writes over all that a list has, and over what room there is behind.
func spoil(l []api.Version) {
	l = l[:cap(l)]
	for i := range l {
		l[i] = has(77, "spoilt")
	}
}

// answers tells the lists that all calls answer of a chain.
func answers(l []api.Version) [][]api.Version {
	m := [][]api.Version{}
	for time := -1; time <= 7; time++ {
		m = append(m, chain.Vacuum(l, time), chain.Rewind(l, time))
		chain.Check(l)
		chain.At(l, time)
		chain.Since(l, time)
		for _, v := range vers(has(time, "b"), gone(time), has(time, long(201))) {
			grown, _ := chain.Add(l, v)
			m = append(m, grown)
		}
	}
	return m
}

// What is handed in stays as it is, behind its end too, and shares nothing with what is answered, nor do two answers.
func TestP13Apart(t *testing.T) {
	look := func(l []api.Version) {
		in := roomy(l)
		wants := answers(slices.Clone(l))
		got := answers(in)
		for i := range got {
			if !slices.Equal(got[i], wants[i]) {
				t.Errorf("of %v: %v, want %v, as ahead of other answers' being spoilt", l, got[i], wants[i])
			}
			spoil(got[i])
			_ = append(got[i], has(66, "appended"))
		}
		if whole := roomy(l); !slices.Equal(in[:len(l)+2], whole[:len(l)+2]) {
			t.Errorf("%v was changed to %v", whole[:len(l)+2], in[:len(l)+2])
		}
	}
	smallChains(5, look)
	for _, l := range broken() {
		look(l)
	}
}
