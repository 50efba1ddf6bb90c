package tree_test

import (
	"bytes"
	"maps"
	"slices"
	"testing"

	"ambry/api"
	"ambry/block"
	"ambry/page"
	"ambry/pager"
	"ambry/tree"
)

// dice are numbers by a short rule.
type dice uint32

// below tells a number from 0 on, and below n.
func (s *dice) below(n int) int {
	*s = *s*1664525 + 1013904223
	return int(*s>>8) % n
}

// twig is a node of a tree by the chapter's words, without pages: a leaf, or a node with twigs below. Its Kids are not used.
type twig struct {
	api.Node
	below []*twig
}

// size tells how many bytes a twig's node takes.
func (w *twig) size() int {
	size := 3
	if !w.Leaf {
		size += 4
	}
	for i, key := range w.Keys {
		size += len(key)
		if w.Leaf {
			size += 3 + len(w.Vals[i])
		} else {
			size += 5
		}
	}
	return size
}

// halves tells a twig, or, if it is too large, both its halves and the key between.
func (w *twig) halves() ([]*twig, []string) {
	if w.size() <= 1024 {
		return []*twig{w}, nil
	}
	n := w.Node
	if !w.Leaf {
		n.Kids = make([]int, len(w.below))
	}
	left, key, right, _ := page.Split(n)
	l, r := &twig{Node: left}, &twig{Node: right}
	if !w.Leaf {
		l.below, r.below = w.below[:len(left.Kids)], w.below[len(left.Kids):]
	}
	return []*twig{l, r}, []string{key}
}

// kid tells which twig below has a key.
func (w *twig) kid(key string) int {
	i := 0
	for i < len(w.Keys) && key >= w.Keys[i] {
		i++
	}
	return i
}

// put puts a key, and tells what stands for the twig then.
func (w *twig) put(key, val string) ([]*twig, []string) {
	if w.Leaf {
		n, _ := page.Put(w.Node, key, val)
		return (&twig{Node: n}).halves()
	}
	i := w.kid(key)
	l, between := w.below[i].put(key, val)
	m := &twig{below: slices.Concat(w.below[:i], l, w.below[i+1:])}
	m.Keys = slices.Concat(w.Keys[:i], between, w.Keys[i:])
	return m.halves()
}

// drop drops a key that is there, and tells what stands for the twig then, or nil.
func (w *twig) drop(key string) *twig {
	if w.Leaf {
		n, _ := page.Drop(w.Node, key)
		if len(n.Keys) == 0 {
			return nil
		}
		return &twig{Node: n}
	}
	i := w.kid(key)
	m := &twig{below: slices.Clone(w.below)}
	m.Keys = slices.Clone(w.Keys)
	if kid := w.below[i].drop(key); kid != nil {
		m.below[i] = kid
		return m
	}
	m.below = slices.Delete(m.below, i, i+1)
	if len(m.below) == 0 {
		return nil
	}
	if i > 0 {
		i--
	}
	m.Keys = slices.Delete(m.Keys, i, i+1)
	return m
}

// crowned tells the root of a tree whose root was some twigs, with keys between.
func crowned(l []*twig, between []string) *twig {
	w := l[0]
	if len(l) > 1 {
		w = &twig{Node: api.Node{Keys: between}, below: l}
	}
	for w != nil && len(w.below) == 1 {
		w = w.below[0]
	}
	return w
}

// walker is a tree on a disk, and what it is to be.
type walker struct {
	p    *pager.Pager
	d    *block.Disk
	x    *tree.Tree
	root *twig
	has  map[string]string
	long int // how many bytes all keys that are put have, or more

	elder     int // the last root that was settled
	elderRoot *twig
	elderHas  map[string]string
	pages     map[int][]byte // its pages
}

// text tells a text of few different bytes, mostly a short one.
func (s *dice) text(most int) string {
	size := 1 + s.below(4)
	switch s.below(8) {
	case 0:
		size = most - s.below(3)
	case 1, 2:
		size = most/2 + s.below(most/2)
	case 3:
		size = s.below(3)
	}
	b := make([]byte, size)
	for i := range b {
		b[i] = "\x00a\x7f\x80\xff"[s.below(5)]
	}
	return string(b)
}

// key tells a key, mostly one that is there.
func (s *dice) key(has map[string]string) string {
	if len(has) == 0 || s.below(3) == 0 {
		return s.text(128)
	}
	return slices.Sorted(maps.Keys(has))[s.below(len(has))]
}

// step puts or drops a key, here and in what is to be.
func (w *walker) step(t *testing.T, s *dice, drops bool) {
	t.Helper()
	key := s.key(w.has)
	if !drops {
		key = s.text(128)
		key = x(key, max(len(key), w.long))
	}
	_, there := w.has[key]
	switch {
	case drops && !there:
		wantErr(t, "Drop", w.x.Drop(key), api.ErrNone)
	case drops:
		drop(t, w.x, key)
		w.root = crowned([]*twig{w.root.drop(key)}, nil)
		delete(w.has, key)
	default:
		val := s.text(200)
		put(t, w.x, key, val)
		if w.root == nil {
			w.root = &twig{Node: api.Node{Leaf: true}}
		}
		w.root = crowned(w.root.put(key, val))
		w.has[key] = val
	}
}

// look looks at the node of a page, and those below, and marks their pages.
func (w *walker) look(t *testing.T, at int, want *twig, seen map[int]bool) {
	t.Helper()
	b, err := w.p.Read(at)
	wantErr(t, "Read of a page", err, api.OK)
	n, err := page.Read(b)
	if err != api.OK || n.Leaf != want.Leaf || !slices.Equal(n.Keys, want.Keys) || !slices.Equal(n.Vals, want.Vals) || len(n.Kids) != len(want.below) {
		t.Fatalf("the page %d has %v, %d, want %v", at, n, err, want.Node)
	}
	if seen[at] {
		t.Fatalf("the page %d is a kid twice", at)
	}
	seen[at] = true
	for i, kid := range n.Kids {
		w.look(t, kid, want.below[i], seen)
	}
}

// all tells the pages of a tree that is to be so.
func (w *walker) all(t *testing.T, root int, want *twig) []int {
	t.Helper()
	seen := map[int]bool{}
	if want != nil {
		w.look(t, root, want, seen)
	} else if root != -1 {
		t.Fatalf("the root is %d, want none", root)
	}
	return slices.Sorted(maps.Keys(seen))
}

// hold looks at all pages: the tree's, the elder one's, and that no other one is taken.
func (w *walker) hold(t *testing.T) {
	t.Helper()
	own := w.all(t, w.x.Root(), w.root)
	if l, err := w.x.Pages(); !slices.Equal(l, own) || err != api.OK {
		t.Fatalf("Pages = %v, %d, want %v, 0", l, err, own)
	}
	if n, err := w.x.Check(); n != len(w.has) || err != api.OK {
		t.Fatalf("Check = %d, %d, want %d, 0", n, err, len(w.has))
	}
	elder := w.all(t, w.elder, w.elderRoot)
	for _, i := range elder {
		if b, err := w.p.Read(i); err != api.OK || !bytes.Equal(b, w.pages[i]) {
			t.Fatalf("the page %d of the elder root is another one: Err %d", i, err)
		}
	}
	settled, fresh, old := w.p.Pages()
	taken := slices.Sorted(slices.Values(slices.Concat(settled, fresh, old)))
	both := slices.Compact(slices.Sorted(slices.Values(slices.Concat(own, elder))))
	if !slices.Equal(taken, both) {
		t.Fatalf("the pages %v are taken, the tree's and the elder one's are %v", taken, both)
	}
	if l := slices.Sorted(slices.Values(slices.Concat(settled, old))); !slices.Equal(l, elder) {
		t.Fatalf("the pages %v are not fresh, the elder root's are %v", l, elder)
	}
}

// wantTold looks at what a tree tells of its pairs.
func wantTold(t *testing.T, x *tree.Tree, has map[string]string, s *dice) {
	t.Helper()
	var l []api.Pair
	for _, key := range slices.Sorted(maps.Keys(has)) {
		l = append(l, api.Pair{Key: key, Val: has[key]})
	}
	wantPairs(t, x, l...)
	for range 5 {
		key := s.text(128)
		if _, there := has[key]; !there {
			wantNoGet(t, x, key, api.ErrNone)
		}
		from, to, most := s.key(has), s.key(has), s.below(20)-2
		var want []api.Pair
		for _, pair := range l {
			if pair.Key >= from && (to == "" || pair.Key < to) && (most < 0 || len(want) < most) {
				want = append(want, pair)
			}
		}
		wantScan(t, x, from, to, most, want...)
	}
}

// settle lets the tree be the elder one.
func (w *walker) settle(t *testing.T) {
	t.Helper()
	settle(t, w.p, w.d)
	w.elder, w.elderRoot, w.elderHas, w.pages = w.x.Root(), w.root, maps.Clone(w.has), map[int][]byte{}
	for _, i := range w.all(t, w.elder, w.elderRoot) {
		w.pages[i], _ = w.p.Read(i)
	}
}

// back lets the elder tree be the tree again, now and then behind a crash, by a pager that is told of its pages.
func (w *walker) back(t *testing.T, s *dice) {
	t.Helper()
	if s.below(2) == 0 {
		var keep []int
		for i := range w.d.Pending() {
			if s.below(2) == 0 {
				keep = append(keep, i)
			}
		}
		wantErr(t, "Crash", w.d.Crash(keep), api.OK)
	}
	if s.below(2) == 0 {
		wantErr(t, "Undo", w.p.Undo(), api.OK)
	} else {
		p, err := pager.New(w.d, 0, w.d.Size()/api.PageSectors)
		wantErr(t, "New", err, api.OK)
		wantErr(t, "Keep", p.Keep(slices.Collect(maps.Keys(w.pages))), api.OK)
		w.p = p
	}
	w.x, w.root, w.has = open(t, w.p, w.elder), w.elderRoot, maps.Clone(w.elderHas)
}

// Long rows of Put and Drop, held against a tree of the chapter's words and a map: pairs, nodes, pages; and the elder tree stays.
func TestP10_6Walk(t *testing.T) {
	deepest := 0
	for seed := range 18 {
		s := dice(seed)
		p, d := newPager(t, 600)
		w := &walker{p: p, d: d, x: open(t, p, -1), has: map[string]string{}, long: seed % 3 * 60, elder: -1, elderHas: map[string]string{}}
		for turn := range 700 {
			drops := s.below(10) < 2
			if turn/100%3 == 2 { // now and then it becomes smaller
				drops = s.below(10) < 8
			}
			w.step(t, &s, drops)
			if turn%8 == 0 {
				w.hold(t)
			}
			switch s.below(60) {
			case 0, 1:
				w.settle(t)
			case 2:
				w.back(t, &s)
			case 3:
				w.x = open(t, w.p, w.x.Root())
			case 4:
				wantTold(t, w.x, w.has, &s)
				wantTold(t, open(t, w.p, w.elder), w.elderHas, &s)
			}
			deepest = max(deepest, depth(w.root))
		}
		wantTold(t, w.x, w.has, &s)
		w.empty(t, &s)
	}
	if deepest < 3 {
		t.Errorf("no leaf was deeper than %d", deepest)
	}
}

// depth tells how deep the leaves are.
func depth(w *twig) int {
	if w == nil || w.Leaf {
		return 0
	}
	return 1 + depth(w.below[0])
}

// empty drops all keys that are left.
func (w *walker) empty(t *testing.T, s *dice) {
	t.Helper()
	for n := 0; len(w.has) > 0; n++ {
		key := slices.Sorted(maps.Keys(w.has))[s.below(len(w.has))]
		drop(t, w.x, key)
		w.root = crowned([]*twig{w.root.drop(key)}, nil)
		delete(w.has, key)
		if n%7 == 0 {
			w.hold(t)
		}
	}
	w.hold(t)
	wantRoot(t, w.x, -1)
	w.settle(t)
	if free := w.p.Free(); free != 600 {
		t.Fatalf("%d pages are free, want all", free)
	}
}

// A tree that is opened of an elder root has its pairs, and may be changed, whatever is put and dropped since, until Settle.
func TestP10_7Elder(t *testing.T) {
	tr, p, d, l := wide(t)
	put(t, tr, "b5", x("v", 200))
	drop(t, tr, "a")
	elder := open(t, p, 3)
	wantPairs(t, elder, l...)
	// The elder root's pages are old: a Put writes others, and they stay.
	put(t, elder, "e", "1")
	wantPairs(t, elder, append(slices.Clone(l), pairs("e", "1")...)...)
	wantPairs(t, open(t, p, 3), l...)
	wantNoGet(t, tr, "e", api.ErrNone)
	wantErr(t, "Undo", p.Undo(), api.OK)
	wantErr(t, "Crash", d.Crash(nil), api.OK)
	wantPairs(t, open(t, p, 3), l...)
	wantPages(t, open(t, p, 3), p, []int{0, 1, 2, 3}, []int{0, 1, 2, 3}, nil, nil)
}

// However often keys are put and dropped, and settled: no page is taken but the tree's.
func TestP10_8NoMore(t *testing.T) {
	p, d := newPager(t, 5)
	tr := open(t, p, -1)
	for i := range 300 {
		key := string([]byte{byte('a' + i%3)})
		if i%7 == 3 {
			if err := tr.Drop(key); err != api.OK && err != api.ErrNone {
				t.Fatal(err)
			}
		} else {
			put(t, tr, key, x("v", i%200+1))
		}
		if i%2 == 0 {
			settle(t, p, d)
			own, err := tr.Pages()
			wantErr(t, "Pages", err, api.OK)
			wantPages(t, tr, p, own, own, nil, nil)
		}
	}
}
