package space_test

import (
	"math"
	"slices"
	"strings"
	"testing"

	"ambry/api"
	"ambry/space"
)

// dice are numbers that look thrown, and are the same ones each time.
type dice uint64

// below tells a number from 0 on, below n.
func (s *dice) below(n int) int {
	*s = *s*6364136223846793005 + 1442695040888963407
	return int((uint64(*s) >> 33) % uint64(n))
}

// key tells one of some keys that are close to one another.
func (s *dice) key() string {
	return []string{"", "\x00", "a", "a\x00", "aa", "ab", "b", "b\x00", "b\x00\x00", "\x7f", "\x80", "\xff", "\xff\xff"}[s.below(13)]
}

// changes are right changes of some keys, in any order.
func (s *dice) changes(most int) []api.Change {
	l := changes()
	for range s.below(most + 1) {
		c := puts(s.key(), strings.Repeat(string(rune('a'+s.below(26))), s.below(4)))
		if s.below(3) == 0 {
			c = drops(c.Key)
		}
		if !slices.ContainsFunc(l, func(d api.Change) bool { return d.Key == c.Key }) {
			l = append(l, c)
		}
	}
	return l
}

// plain is a space as the chapter's words have it: items, in any order, and two times.
type plain struct {
	l          []api.Item
	last, mark int
}

// items tells the items by rising keys.
func (p plain) items() []api.Item {
	l := slices.Clone(p.l)
	slices.SortFunc(l, func(a, b api.Item) int { return strings.Compare(a.Key, b.Key) })
	return l
}

// apply lets changes be from a time on.
func (p *plain) apply(time int, l []api.Change) {
	for _, c := range l {
		v := api.Version{Time: time, Val: c.Val, Del: c.Del}
		at := slices.IndexFunc(p.l, func(x api.Item) bool { return x.Key == c.Key })
		if at < 0 {
			p.l = append(p.l, item(c.Key, v))
		} else {
			p.l[at].Versions = append([]api.Version{v}, p.l[at].Versions...)
		}
	}
	p.last = time
}

// vacuum leaves the versions above a mark, and the one at it, if it has a value.
func (p *plain) vacuum(mark int) {
	var left []api.Item
	for _, x := range p.l {
		var l []api.Version
		for _, v := range x.Versions {
			if v.Time > mark || !v.Del {
				l = append(l, v)
			}
			if v.Time <= mark {
				break
			}
		}
		if len(l) > 0 {
			left = append(left, item(x.Key, l...))
		}
	}
	p.l, p.mark = left, mark
}

// pairs tells what keys of a range have at a time.
func (p plain) pairs(from, to string, time, most int) []api.Pair {
	var l []api.Pair
	for _, x := range p.items() {
		at := slices.IndexFunc(x.Versions, func(v api.Version) bool { return v.Time <= time })
		if x.Key >= from && (to == "" || x.Key < to) && at >= 0 && !x.Versions[at].Del && (most < 0 || len(l) < most) {
			l = append(l, api.Pair{Key: x.Key, Val: x.Versions[at].Val})
		}
	}
	return l
}

// since tells whether a key of a range has a version behind a time.
func (p plain) since(from, to string, time int) bool {
	return slices.ContainsFunc(p.l, func(x api.Item) bool {
		return x.Key >= from && (to == "" || x.Key < to) && slices.ContainsFunc(x.Versions, func(v api.Version) bool { return v.Time > time })
	})
}

// copy tells another plain space alike.
func (p plain) copy() plain {
	p.l = slices.Clone(p.l)
	return p
}

// wantLike looks at some of what a space tells, held against a plain one.
func wantLike(t *testing.T, d *dice, s *space.Space, p plain) {
	t.Helper()
	wantItems(t, s, p.items(), p.last, p.mark)
	for range 6 {
		time, from, to, most := p.mark-2+d.below(p.last-p.mark+5), d.key(), d.key(), d.below(6)-1
		wantSince(t, s, from, to, time, p.since(from, to, time))
		switch {
		case time < p.mark:
			wantNoScan(t, s, from, to, time, most, api.ErrOld)
			wantGet(t, s, from, time, "", api.ErrOld)
		case time > p.last:
			wantNoScan(t, s, from, to, time, most, api.ErrFuture)
			wantGet(t, s, from, time, "", api.ErrFuture)
		default:
			wantScan(t, s, from, to, time, most, p.pairs(from, to, time, most))
			if l := p.pairs(from, from+"\x00", time, -1); len(l) > 0 {
				wantGet(t, s, from, time, l[0].Val, api.OK)
			} else {
				wantGet(t, s, from, time, "", api.ErrNone)
			}
		}
	}
}

// Long rows of calls, on spaces that are copied, and loaded anew, on the way.
func TestP14Walk(t *testing.T) {
	d := dice(14)
	for range 60 {
		s, p := space.New(), plain{}
		other, q := s.Copy(), p.copy()
		for range 80 {
			switch d.below(12) {
			case 0:
				mark := p.mark + d.below(p.last-p.mark+1)
				wantVacuum(t, s, mark, api.OK)
				p.vacuum(mark)
			case 1:
				wantVacuum(t, s, p.mark-1-d.below(3), api.ErrArg)
				wantVacuum(t, s, p.last+1+d.below(3), api.ErrArg)
			case 2:
				wantApply(t, "not above last", s, p.last-d.below(4), d.changes(5), api.ErrTime)
				twice := d.key()
				wantApply(t, "twice", s, p.last+1, append(changes(puts(twice, "")), append(d.changes(3), drops(twice))...), api.ErrArg)
			case 3:
				other, q = s.Copy(), p.copy()
			case 4:
				s, other, p, q = other, s, q, p
			case 5:
				s = load(t, s.Items(), s.Last(), s.Mark())
			default:
				time, l := p.last+1+d.below(3), d.changes(5)
				wantApply(t, "right changes", s, time, l, api.OK)
				p.apply(time, l)
			}
			wantLike(t, &d, s, p)
			wantLike(t, &d, other, q)
		}
	}
}

// told is what a space tells of a time.
func told(t *testing.T, s *space.Space, time int) []api.Pair {
	t.Helper()
	l, err := s.Scan("", "", time, -1)
	if err != api.OK {
		t.Errorf("Scan at %d of mark %d, last %d: Err %d, want 0", time, s.Mark(), s.Last(), err)
	}
	return l
}

func TestP14_7AsItWas(t *testing.T) {
	d := dice(7)
	for range 40 {
		s := space.New()
		was := map[int][]api.Pair{0: nil}
		for range 60 {
			if d.below(5) == 0 {
				wantVacuum(t, s, s.Mark()+d.below((s.Last()-s.Mark())/2+1), api.OK)
			} else {
				last := s.Last()
				apply(t, s, last+1+d.below(3), d.changes(6)...)
				for time := last + 1; time < s.Last(); time++ {
					was[time] = was[last]
				}
				was[s.Last()] = told(t, s, s.Last())
			}
			for time := s.Mark(); time <= s.Last(); time++ {
				wantScan(t, s, "", "", time, -1, was[time])
				for _, p := range was[time] {
					wantGet(t, s, p.Key, time, p.Val, api.OK)
				}
			}
		}
	}
}

// done does changes to a plain list of pairs.
func done(l []api.Pair, cs []api.Change) []api.Pair {
	l = slices.Clone(l)
	for _, c := range cs {
		l = slices.DeleteFunc(l, func(p api.Pair) bool { return p.Key == c.Key })
		if !c.Del {
			l = append(l, api.Pair{Key: c.Key, Val: c.Val})
		}
	}
	slices.SortFunc(l, func(a, b api.Pair) int { return strings.Compare(a.Key, b.Key) })
	return l
}

func TestP14_8Batches(t *testing.T) {
	d := dice(8)
	for range 40 {
		s := space.New()
		lists := [][]api.Pair{nil}
		for range 40 {
			l := d.changes(8)
			lists = append(lists, done(lists[len(lists)-1], l))
			apply(t, s, s.Last()+1, l...)
			if d.below(10) == 0 {
				wantVacuum(t, s, s.Mark()+d.below(s.Last()-s.Mark()+1), api.OK)
			}
			for time := s.Mark(); time <= s.Last(); time++ {
				wantScan(t, s, "", "", time, -1, lists[time])
			}
		}
	}
}

// All that up to three batches of two keys can be, at each mark.
func TestP14_8EachSmall(t *testing.T) {
	ways := [][]api.Change{nil, changes(puts("a", "1")), changes(drops("a")), changes(puts("b", "2"), drops("a")), changes(puts("b", ""), puts("a", "3")), changes(drops("b"), drops("a"))}
	for way := range 6 * 6 * 6 {
		s := space.New()
		lists := [][]api.Pair{nil}
		for time, rest := 1, way; time <= 3; time, rest = time+1, rest/6 {
			lists = append(lists, done(lists[time-1], ways[rest%6]))
			apply(t, s, time, ways[rest%6]...)
		}
		for mark := range 4 {
			c := s.Copy()
			wantVacuum(t, c, mark, api.OK)
			for time := mark; time <= 3; time++ {
				wantScan(t, c, "", "", time, -1, lists[time])
				wantScan(t, c, "", "b", time, -1, slices.DeleteFunc(slices.Clone(lists[time]), func(p api.Pair) bool { return p.Key == "b" }))
			}
			// By marks one behind the other it comes to the same.
			for between := 0; between <= mark; between++ {
				b := s.Copy()
				wantVacuum(t, b, between, api.OK)
				wantVacuum(t, b, mark, api.OK)
				wantItems(t, b, c.Items(), 3, mark)
			}
		}
	}
}

func TestP14_9Back(t *testing.T) {
	d := dice(9)
	for range 40 {
		s, p := space.New(), plain{}
		for range 30 {
			time, l := p.last+1+d.below(4), d.changes(6)
			apply(t, s, time, l...)
			p.apply(time, l)
			if d.below(6) == 0 {
				mark := p.mark + d.below(p.last-p.mark+1)
				wantVacuum(t, s, mark, api.OK)
				p.vacuum(mark)
			}
			back := load(t, s.Items(), s.Last(), s.Mark())
			wantLike(t, &d, back, p)
			// It goes on as the space does.
			next := d.changes(6)
			c, q := s.Copy(), p.copy()
			apply(t, back, time+1, next...)
			apply(t, c, time+1, next...)
			q.apply(time+1, next)
			wantLike(t, &d, back, q)
			wantVacuum(t, back, time+1, api.OK)
			wantVacuum(t, c, time+1, api.OK)
			wantItems(t, back, c.Items(), c.Last(), c.Mark())
		}
	}
}

// roomy tells a list alike, with room behind its end, and something there.
func roomy[T any](l []T, behind T) []T {
	return append(slices.Clone(l), behind, behind)[:len(l)]
}

// spoil writes over all that items have, and over what room there is behind.
func spoil(l []api.Item) {
	for _, x := range l {
		vs := x.Versions[:cap(x.Versions)]
		for i := range vs {
			vs[i] = has(77, "spoilt")
		}
	}
	l = l[:cap(l)]
	for i := range l {
		l[i] = item("spoilt", has(77, "spoilt"))
	}
}

// What is handed in to Load stays as it is, behind its end too, and is not kept.
func TestP14ApartLoad(t *testing.T) {
	var in []api.Item
	for _, x := range exampleItems() {
		in = append(in, api.Item{Key: x.Key, Versions: roomy(x.Versions, has(99, "behind"))})
	}
	in = roomy(in, item("behind", has(1, "behind")))
	s := load(t, in, 8, 0)
	again := load(t, in, 8, 0)
	apply(t, again, 9, puts("a", "5"), drops("b"), puts("n", ""))
	wantVacuum(t, again, 9, api.OK)
	if !slices.EqualFunc(in, exampleItems(), sameItem) {
		t.Errorf("what was handed in was changed to %v", in)
	}
	for _, x := range in {
		if v := x.Versions[:len(x.Versions)+1]; v[len(x.Versions)] != has(99, "behind") {
			t.Errorf("what stands behind the versions of %q was changed to %v", x.Key, v)
		}
	}
	if whole := in[:len(in)+1]; whole[len(in)].Key != "behind" {
		t.Errorf("what stands behind the items was changed to %v", whole)
	}
	spoil(in)
	wantItems(t, s, exampleItems(), 8, 0)
}

// Neither are changes that are handed in to Apply changed or kept.
func TestP14ApartApply(t *testing.T) {
	s := space.New()
	in := roomy(changes(puts("c", "1"), puts("a", "2"), drops("b")), drops("behind"))
	apply(t, s, 4, in...)
	wantApply(t, "an old time", s, 4, in, api.ErrTime)
	if whole := in[:4]; !slices.Equal(whole, changes(puts("c", "1"), puts("a", "2"), drops("b"), drops("behind"))) {
		t.Errorf("what was handed in was changed to %v", whole)
	}
	for i := range in[:cap(in)] {
		in[:cap(in)][i] = puts("spoilt", "spoilt")
	}
	wantItems(t, s, items(item("a", has(4, "2")), item("b", gone(4)), item("c", has(4, "1"))), 4, 0)
}

// What is answered shares nothing with the space, nor with another answer.
func TestP14ApartAnswers(t *testing.T) {
	s := example(t)
	apply(t, s, 9, drops("b"))
	want := items(exampleItems()[0], item("b", gone(9), has(5, "2")), item("c", has(2, "3")))
	look := func(last, mark int) {
		t.Helper()
		first, second := s.Items(), s.Items()
		spoil(first)
		if !slices.EqualFunc(second, want, sameItem) {
			t.Errorf("Items: %v, want %v, as ahead of another answer's being spoilt", second, want)
		}
		wantItems(t, s, want, last, mark)
		for i := range second {
			_ = append(second[i].Versions, has(66, "appended"))
		}
		if !slices.EqualFunc(second, want, sameItem) {
			t.Errorf("Items: %v, want %v, as ahead of the appending", second, want)
		}
		l, _ := s.Scan("", "", 9, -1)
		other, _ := s.Scan("", "", 9, -1)
		clear(l[:cap(l)])
		if !slices.Equal(other, pairs("a", "4", "c", "3")) {
			t.Errorf("Scan: %v, as another answer was spoilt", other)
		}
		wantScan(t, s, "", "", 9, -1, pairs("a", "4", "c", "3"))
	}
	look(9, 0)
	wantVacuum(t, s, 7, api.OK)
	want = items(item("a", has(8, "4")), item("b", gone(9), has(5, "2")), item("c", has(2, "3")))
	look(9, 7)
	s = load(t, s.Items(), 9, 7)
	look(9, 7)
	s = s.Copy()
	look(9, 7)
}

// What a call answers hangs on nothing but the calls ahead: asked twice, each tells the same, and asking changes nothing.
func TestP14Asked(t *testing.T) {
	s := example(t)
	for range 2 {
		for _, time := range []int{math.MinInt, -1, 0, 2, 5, 8, 9, math.MaxInt} {
			for _, key := range []string{"", "a", "b", "c", "d"} {
				s.Get(key, time)
				s.Scan(key, "", time, 1)
				s.Since(key, "", time)
			}
		}
		s.Copy()
		wantItems(t, s, exampleItems(), 8, 0)
		wantScan(t, s, "", "", 5, -1, pairs("b", "2", "c", "3"))
	}
}
