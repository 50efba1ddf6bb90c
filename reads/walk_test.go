package reads_test

import (
	"maps"
	"slices"
	"strings"
	"testing"

	"ambry/api"
	"ambry/reads"
	"ambry/space"
)

// line is all keys, cut at marks that rise, the first of which is empty: which of the pieces from one mark up to the next one are within spans, and which marks were read as keys.
type line struct {
	marks  []string
	filled []bool
	read   map[string]bool
}

// newLine tells a line that is cut at texts and just behind them, of which nothing was read.
func newLine(texts ...string) *line {
	m := map[string]bool{"": true}
	for _, s := range texts {
		m[s], m[s+"\x00"] = true, true
	}
	return &line{slices.Sorted(maps.Keys(m)), make([]bool, len(m)), map[string]bool{}}
}

// another tells another line alike.
func (x *line) another() *line {
	return &line{x.marks, slices.Clone(x.filled), maps.Clone(x.read)}
}

// span reads a span both ends of which are marks.
func (x *line) span(from, to string) {
	for i, mark := range x.marks {
		if mark >= from && (to == "" || mark < to) {
			x.filled[i] = true
		}
	}
}

// spanned tells whether a key is within a piece that is.
func (x *line) spanned(key string) bool {
	at, there := slices.BinarySearch(x.marks, key)
	if !there {
		at--
	}
	return x.filled[at]
}

// covers tells whether a key was read.
func (x *line) covers(key string) bool {
	return x.read[key] || x.spanned(key)
}

// reads tells the reads of a line: pieces next to one another are one span.
func (x *line) reads() api.Reads {
	var r api.Reads
	for i, mark := range x.marks {
		switch {
		case x.filled[i] && (i == 0 || !x.filled[i-1]):
			r.Spans = append(r.Spans, api.Span{From: mark})
		case !x.filled[i] && i > 0 && x.filled[i-1]:
			r.Spans[len(r.Spans)-1].To = mark
		}
	}
	for _, key := range slices.Sorted(maps.Keys(x.read)) {
		if !x.spanned(key) {
			r.Keys = append(r.Keys, key)
		}
	}
	return r
}

// full tells whether a line's reads are more than there may be.
func (x *line) full() bool {
	r := x.reads()
	return len(r.Keys) > 64 || len(r.Spans) > 64
}

// lineOf tells the line of reads, right or not.
func lineOf(r api.Reads) *line {
	texts := slices.Clone(r.Keys)
	for _, s := range r.Spans {
		texts = append(texts, s.From, s.To)
	}
	x := newLine(texts...)
	for _, key := range r.Keys {
		x.read[key] = true
	}
	for _, s := range r.Spans {
		x.span(s.From, s.To)
	}
	return x
}

// wantAsLine looks at all that is told of reads, right or not: they are right if they are just those that their line has.
func wantAsLine(t *testing.T, r api.Reads, at []string) {
	t.Helper()
	x := lineOf(r)
	right := same(x.reads(), r) && len(r.Keys) <= 64 && len(r.Spans) <= 64
	want := api.ErrFormat
	if right {
		want = api.OK
	}
	wantCheck(t, "as its line", r, want)
	for _, key := range at {
		wantCovers(t, r, key, right && x.covers(key))
	}
}

// lists hands on all lists of at most so many of some things.
func lists[T any](l []T, most int, each func(l []T)) {
	var grow func(ahead []T)
	grow = func(ahead []T) {
		each(ahead)
		if len(ahead) == most {
			return
		}
		for _, x := range l {
			grow(append(slices.Clone(ahead), x))
		}
	}
	grow(nil)
}

// allSpans tells all spans both ends of which are among texts, those without keys too.
func allSpans(texts []string) []api.Span {
	var l []api.Span
	for _, from := range texts {
		for _, to := range texts {
			l = append(l, api.Span{From: from, To: to})
		}
	}
	return l
}

func TestP16_1EachSmall(t *testing.T) {
	texts := []string{"", "a", "a\x00", "b"}
	at := append(slices.Clone(texts), "\x00", "aa", "b\x00", "c")
	lists(allSpans(texts), 2, func(s []api.Span) {
		lists(texts, 2, func(k []string) { wantAsLine(t, of(k, s), at) })
	})
	lists(allSpans(texts), 3, func(s []api.Span) { wantAsLine(t, of(nil, s), texts[:2]) })
	lists(append(texts, "c"), 5, func(k []string) { wantAsLine(t, of(k, nil), texts[:2]) })
}

// step is a key that is read, or a span.
type step struct {
	key  bool
	span api.Span
}

// do reads what a step says.
func (s step) do(r api.Reads) (api.Reads, api.Errno) {
	if s.key {
		return reads.Key(r, s.span.From)
	}
	return reads.Span(r, s.span.From, s.span.To)
}

// mark does on a line what a step says.
func (s step) mark(x *line) {
	if s.key {
		x.read[s.span.From] = true
	} else if s.span.To == "" || s.span.From < s.span.To {
		x.span(s.span.From, s.span.To)
	}
}

// smallSteps are all steps of a few texts.
func smallSteps(texts []string) []step {
	var l []step
	for _, key := range texts {
		l = append(l, step{true, api.Span{From: key}})
	}
	for _, s := range allSpans(texts) {
		if s.To == "" || s.From < s.To {
			l = append(l, step{false, s})
		}
	}
	return append(l, step{false, api.Span{From: "b", To: "a"}}, step{false, api.Span{From: "a", To: "a"}})
}

// Whatever is read leads to the reads of its line.
func TestP16_2EachSmall(t *testing.T) {
	texts := []string{"", "a", "a\x00", "b", "c"}
	lists(smallSteps(texts), 3, func(l []step) {
		x := newLine(texts...)
		var r api.Reads
		for _, s := range l {
			s.mark(x)
			var err api.Errno
			if r, err = s.do(r); err != api.OK {
				t.Fatalf("%v: Err %d, want 0", l, err)
			}
		}
		if !same(r, x.reads()) {
			t.Fatalf("%v: %q, want %q", l, r, x.reads())
		}
	})
}

// dice are numbers that look thrown, and are the same ones each time.
type dice uint64

// below tells a number from 0 on, below n.
func (s *dice) below(n int) int {
	*s = *s*6364136223846793005 + 1442695040888963407
	return int((uint64(*s) >> 33) % uint64(n))
}

// texts tells so many texts that are all unlike, none of them empty, many of which begin with one another.
func (s *dice) texts(n int) []string {
	m := map[string]bool{}
	for len(m) < n {
		b := make([]byte, 1+s.below(3+s.below(12)))
		for i := range b {
			b[i] = "\x00\x01ab\x7f\x80\xff"[s.below(7)]
		}
		if s.below(30) == 0 {
			b = append(b, long(100)...)
		}
		m[string(b)] = true
	}
	return slices.Sorted(maps.Keys(m))
}

// step tells a step of texts; its spans end soon, but for one of so many.
func (s *dice) step(texts []string, wide int) step {
	at := s.below(len(texts))
	x := step{s.below(2) == 0, api.Span{From: texts[at]}}
	if s.below(20) == 0 {
		x.span.From += "\x00"
	}
	if x.key {
		return x
	}
	x.span.To = texts[min(at+s.below(4), len(texts)-1)]
	if s.below(10) == 0 {
		x.span.To = x.span.From + "\x00"
	}
	if s.below(wide) > 0 {
		return x
	}
	switch s.below(3) {
	case 0:
		x.span.To = ""
	case 1:
		x.span.To = texts[s.below(len(texts))]
	case 2:
		x.span.From = ""
	}
	return x
}

// nearby tells some keys: the texts, what stands close to them, and some that begin with them.
func nearby(texts []string) []string {
	l := []string{"", "\x00", "\xff\xff\xff\xff"}
	for _, s := range texts {
		l = append(l, s, s+"\x00", s+"b", s[:len(s)-1])
	}
	return l
}

// walk reads so many steps, looks at each of them and, now and then, at what is covered, and tells how often it was refused.
func walk(t *testing.T, s *dice, texts []string, wide, steps int) int {
	t.Helper()
	x := newLine(nearby(texts)...)
	var r api.Reads
	refused := 0
	for i := range steps {
		step := s.step(texts, wide)
		y := x.another()
		step.mark(y)
		got, err := step.do(r)
		if y.full() {
			refused++
			if err != api.ErrFull || !same(got, api.Reads{}) {
				t.Fatalf("%v of %q: %q, %d, want none, %d", step, r, got, err, api.ErrFull)
			}
			continue
		}
		if want := y.reads(); err != api.OK || !same(got, want) {
			t.Fatalf("%v of %q: %q, %d, want %q, 0", step, r, got, err, want)
		}
		x, r = y, got
		if i%50 == 0 {
			wantCheck(t, "walk", r, api.OK)
			for _, key := range nearby(texts) {
				wantCovers(t, r, key, x.covers(key))
			}
		}
	}
	return refused
}

func TestP16_2Walk(t *testing.T) {
	s := dice(16)
	refused := 0
	for range 60 {
		walk(t, &s, s.texts(3+s.below(30)), 20, 60)
	}
	for range 4 {
		refused += walk(t, &s, s.texts(500), 300, 600)
	}
	if refused < 100 {
		t.Errorf("%d steps were refused", refused)
	}
}

// wantCovered looks at what comes to the keys that are covered: what is read, and nothing else.
func wantCovered(t *testing.T, r api.Reads, s step, at []string) {
	t.Helper()
	got, err := s.do(r)
	if err != api.OK {
		return
	}
	for _, key := range at {
		reached := s.key && key == s.span.From || !s.key && key >= s.span.From && (s.span.To == "" || key < s.span.To)
		wantCovers(t, got, key, reached || reads.Covers(r, key))
	}
}

func TestP16_4Covered(t *testing.T) {
	texts := []string{"", "a", "a\x00", "b", "c"}
	at := append(slices.Clone(texts), "\x00", "aa", "b\x00", "c\x00", "d", "\xff")
	all := smallSteps(texts)
	lists(all, 2, func(l []step) {
		var r api.Reads
		for _, s := range l {
			r, _ = s.do(r)
		}
		for _, s := range all {
			wantCovered(t, r, s, at)
		}
	})
	s := dice(4)
	for range 20 {
		texts := s.texts(40)
		var r api.Reads
		for range 60 {
			step := s.step(texts, 20)
			wantCovered(t, r, step, nearby(texts))
			if next, err := step.do(r); err == api.OK {
				r = next
			}
		}
	}
}

// orders hands on all orders of steps.
func orders(l []step, at int, each func(l []step)) {
	if at == len(l) {
		each(l)
		return
	}
	for i := at; i < len(l); i++ {
		l[at], l[i] = l[i], l[at]
		orders(l, at+1, each)
		l[at], l[i] = l[i], l[at]
	}
}

// all tells the reads of steps, and whether none of them was refused.
func all(l []step) (api.Reads, bool) {
	var r api.Reads
	for _, s := range l {
		var err api.Errno
		if r, err = s.do(r); err != api.OK {
			return r, false
		}
	}
	return r, true
}

// wantOrders looks at what steps come to in any order, and when they are done again.
func wantOrders(t *testing.T, l []step) {
	t.Helper()
	want, ok := all(l)
	orders(slices.Clone(l), 0, func(l []step) {
		if r, done := all(l); !ok || !done || !same(r, want) {
			t.Errorf("%v: %q, %t, want %q", l, r, done, want)
		}
	})
	for _, s := range l {
		if r, err := s.do(want); err != api.OK || !same(r, want) {
			t.Errorf("%v again: %q, %d, want %q, 0", s, r, err, want)
		}
	}
}

func TestP16_5AnyOrder(t *testing.T) {
	texts := []string{"", "a", "b", "c"}
	lists(smallSteps(texts), 3, func(l []step) { wantOrders(t, l) })
	s := dice(5)
	for range 60 {
		texts := s.texts(12)
		var l []step
		for range 5 {
			l = append(l, s.step(texts, 20))
		}
		wantOrders(t, l)
	}
	// Of long rows some orders.
	for range 60 {
		texts := s.texts(80)
		var l []step
		for range 60 {
			l = append(l, s.step(texts, 20))
		}
		want, _ := all(l)
		for range 10 {
			for i := range l {
				j := i + s.below(len(l)-i)
				l[i], l[j] = l[j], l[i]
			}
			if r, ok := all(append(l, l[:s.below(len(l))]...)); !ok || !same(r, want) {
				t.Fatalf("%v: %q, %t, want %q", l, r, ok, want)
			}
		}
	}
}

// batch tells changes of some of texts.
func (s *dice) batch(texts []string, most int) []api.Change {
	m := map[string]api.Change{}
	for range s.below(most + 1) {
		key := texts[s.below(len(texts))] + []string{"", "", "\x00"}[s.below(3)]
		m[key] = api.Change{Key: key, Val: strings.Repeat("v", s.below(3))}
		if s.below(3) == 0 {
			m[key] = api.Change{Key: key, Del: true}
		}
	}
	return slices.Collect(maps.Values(m))
}

// Behind changes reads are stale, if these met what was read, or if they were stale ahead.
func TestP16_6Met(t *testing.T) {
	s := dice(6)
	met, missed := 0, 0
	for range 60 {
		texts := s.texts(30)
		sp := space.New()
		var r api.Reads
		for range s.below(20) {
			r, _ = s.step(texts, 20).do(r)
		}
		for range 20 {
			time := sp.Last() + 1 + s.below(3)
			l := s.batch(texts, 3)
			wasStale := map[int]bool{}
			for at := -1; at < time; at++ {
				wasStale[at] = reads.Stale(r, sp, at)
			}
			apply(t, sp, time, l)
			hit := reads.Hit(r, l)
			for at, was := range wasStale {
				wantStale(t, r, sp, at, was || hit)
			}
			wantStale(t, r, sp, time, false)
			if hit {
				met++
			} else if len(l) > 0 {
				missed++
			}
		}
	}
	if met < 100 || missed < 100 {
		t.Errorf("%d batches met what was read, %d did not", met, missed)
	}
}

// Stale is what the chapter's words have, of each key of a space by itself.
func TestP16_3StaleWalk(t *testing.T) {
	s := dice(3)
	for range 60 {
		texts := s.texts(30)
		sp := space.New()
		for range s.below(12) {
			apply(t, sp, sp.Last()+1+s.below(3), s.batch(texts, 4))
		}
		var r api.Reads
		for range 12 {
			r, _ = s.step(texts, 20).do(r)
			for time := -1; time <= sp.Last()+1; time++ {
				want := slices.ContainsFunc(sp.Items(), func(x api.Item) bool {
					return x.Versions[0].Time > time && reads.Covers(r, x.Key)
				})
				wantStale(t, r, sp, time, want)
			}
		}
	}
}

// roomy tells reads alike, with room behind their lists' ends, and something there.
func roomy(r api.Reads) api.Reads {
	k := append(slices.Clone(r.Keys), "behind", "more behind")
	s := append(slices.Clone(r.Spans), spans("behind", "b", "more", "m")...)
	return of(k[:len(r.Keys)], s[:len(r.Spans)])
}

// whole tells reads with the two keys and spans that stand behind their lists' ends.
func whole(r api.Reads) api.Reads {
	return of(r.Keys[:len(r.Keys)+2], r.Spans[:len(r.Spans)+2])
}

// spoil writes over all that reads have, and over what room there is behind.
func spoil(r api.Reads) {
	for i := range r.Keys[:cap(r.Keys)] {
		r.Keys[:cap(r.Keys)][i] = "spoilt"
	}
	for i := range r.Spans[:cap(r.Spans)] {
		r.Spans[:cap(r.Spans)][i] = api.Span{From: "spoilt", To: "spoilt"}
	}
}

// answers tells the reads that all calls answer of reads.
func answers(r api.Reads) []api.Reads {
	texts := []string{"", "a", "b", "bb", "c", "d", "e", "zz", "k1000", "s100", "s120a"}
	var l []api.Reads
	sp := space.New()
	for _, s := range smallSteps(texts) {
		got, _ := s.do(r)
		l = append(l, got)
		reads.Check(r)
		reads.Covers(r, s.span.From)
		reads.Hit(r, puts(s.span.From, s.span.To))
		reads.Stale(r, sp, 0)
	}
	return l
}

// What is handed in stays as it is, behind its end too, and shares nothing with what is answered, nor do two answers.
func TestP16Apart(t *testing.T) {
	look := func(r api.Reads) {
		t.Helper()
		in := roomy(r)
		wants := answers(roomy(r))
		got := answers(in)
		for i := range got {
			if !same(got[i], wants[i]) {
				t.Errorf("of %q: %q, want %q, as ahead of other answers' being spoilt", r, got[i], wants[i])
			}
			spoil(got[i])
		}
		if !same(whole(in), whole(roomy(r))) {
			t.Errorf("%q was changed to %q", whole(roomy(r)), whole(in))
		}
	}
	for _, r := range []api.Reads{{}, example(), of(manyKeys(64), manySpans(64)), of(nil, spans("", "")), of(keys("a", "b", "c"), nil), of(nil, spans("a", "b", "c", "d", "e", ""))} {
		look(r)
	}
	for _, r := range wrongReads() {
		look(r)
	}
}

// Neither the changes nor the space that reads are held against are changed, or kept.
func TestP16ApartOthers(t *testing.T) {
	r := example()
	l := append(puts("e", "a"), drops("z", "behind")...)
	want := slices.Clone(l)
	wantHit(t, r, l[:3], true)
	if !slices.Equal(l, want) {
		t.Errorf("Hit changed %v to %v", want, l)
	}
	sp := space.New()
	apply(t, sp, 4, puts("a", "e", "z"))
	was := sp.Items()
	wantStale(t, r, sp, 3, true)
	if !slices.EqualFunc(sp.Items(), was, func(a, b api.Item) bool { return a.Key == b.Key && slices.Equal(a.Versions, b.Versions) }) || sp.Last() != 4 || sp.Mark() != 0 {
		t.Errorf("Stale changed %v to %v", was, sp.Items())
	}
}
