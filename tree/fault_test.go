package tree_test

import (
	"slices"
	"strconv"
	"testing"

	"ambry/api"
	"ambry/block"
	"ambry/page"
	"ambry/pager"
	"ambry/tree"
)

func TestP10_4Dead(t *testing.T) {
	tr, _, d := of(t, 8, keys("a"), keys("c"), inner([]int{0, 1}, "b"))
	die(t, d)
	for range 2 {
		wantAll(t, tr, "a", api.ErrDown)
		wantAll(t, tr, "z", api.ErrDown)
	}
	wantErr(t, "Crash", d.Crash(nil), api.OK)
	wantPairs(t, tr, pairs("a", "", "c", "")...)
}

// Of an empty tree no page is read.
func TestP10_4DeadEmpty(t *testing.T) {
	p, d := newPager(t, 4)
	tr := open(t, p, -1)
	die(t, d)
	wantErr(t, "Put", tr.Put("a", ""), api.ErrDown)
	wantErr(t, "Drop", tr.Drop("a"), api.ErrNone)
	wantNoGet(t, tr, "a", api.ErrNone)
	wantPairs(t, tr)
	wantPages(t, tr, p, nil, nil, nil, nil)
	wantRoot(t, tr, -1)
}

// The pager's errors in reading a page: there is none, or it is free.
func TestP10_4NoPage(t *testing.T) {
	for kid, want := range map[int]api.Errno{7: api.ErrNone, 8: api.ErrRange, 16383: api.ErrRange} {
		for at, key := range []string{"a", "c", "e"} {
			kids := []int{0, 0, 0}
			kids[at] = kid
			tr, _, _ := of(t, 8, keys("a", "c", "e"), inner(kids, "b", "d"))
			wantAll(t, tr, key, want)
			wantGet(t, tr, []string{"c", "e", "a"}[at], "") // the way to another key does not lead there
		}
	}
	p, _ := newPager(t, 4)
	wantAll(t, open(t, p, 3), "a", api.ErrNone)
	tr, p, _ := of(t, 4, keys("a"))
	put(t, tr, "b", "")
	wantErr(t, "Undo", p.Undo(), api.OK)
	wantAll(t, tr, "a", api.ErrNone)
	wantPairs(t, open(t, p, 0), pairs("a", "")...)
}

// spoil writes bytes to the least free page, which no node has.
func spoil(t *testing.T, p *pager.Pager, want int) {
	t.Helper()
	if at, err := p.Write([]byte("no node")); at != want || err != api.OK {
		t.Fatalf("Write = %d, %d, want %d", at, err, want)
	}
}

func TestP10_4NoNode(t *testing.T) {
	p, _ := newPager(t, 4)
	spoil(t, p, 0)
	wantAll(t, open(t, p, 0), "a", api.ErrFormat)
	for at, key := range []string{"a", "c", "e"} {
		kids := []int{0, 0, 0}
		kids[at] = 2
		p, _ := newPager(t, 4)
		lay(t, p, keys("a", "c", "e"), inner(kids, "b", "d"))
		spoil(t, p, 2)
		tr := open(t, p, 1)
		wantAll(t, tr, key, api.ErrFormat)
		wantGet(t, tr, []string{"c", "e", "a"}[at], "")
	}
}

// Of several faults the pager's error is told, wherever they stand.
func TestP10_4First(t *testing.T) {
	for _, kids := range [][]int{{1, 2, 5}, {5, 1, 2}, {2, 5, 1}} {
		p, _ := newPager(t, 6)
		lay(t, p, inner(kids, "b", "d"), keys("z"))
		spoil(t, p, 2)
		tr := open(t, p, 0)
		if _, err := tr.Pages(); err != api.ErrNone {
			t.Errorf("kids %v: Pages: Err %d, want ErrNone", kids, err)
		}
		wantNoCheck(t, tr, api.ErrNone)
	}
}

// No page is read that can't have a pair that is asked for: what is wrong there is not told.
func TestP10_4NotRead(t *testing.T) {
	tr, _, _ := of(t, 8, keys("a", "b"), keys("k", "l"), inner([]int{0, 1, 7}, "k", "p"))
	l := pairs("a", "", "b", "", "k", "", "l", "")
	for most := range 5 {
		wantScan(t, tr, "", "", most, l[:most]...)
	}
	wantScan(t, tr, "", "p", -1, l...)
	wantScan(t, tr, "z", "q", -1)
	for _, most := range []int{5, -1} {
		if l, err := tr.Scan("", "", most); len(l) != 0 || err != api.ErrNone {
			t.Errorf("Scan of %d: %d pairs, %d, want none, ErrNone", most, len(l), err)
		}
	}
}

// chain tells the tree of a leaf that is so deep, and nodes with one kid alone above it, and one with another leaf too.
func chain(t *testing.T, depth int) (*tree.Tree, *pager.Pager) {
	t.Helper()
	nodes := []api.Node{keys("m")}
	for i := range depth - 1 {
		nodes = append(nodes, inner([]int{i}))
	}
	nodes = append(nodes, keys("z"), inner([]int{depth - 1, depth}, "n"))
	tr, p, _ := of(t, 2*depth+8, nodes...)
	return tr, p
}

func TestP10_4Deep(t *testing.T) {
	for range 2 {
		tr, _ := chain(t, 20)
		wantGet(t, tr, "m", "")
		wantScan(t, tr, "", "", -1, pairs("m", "", "z", "")...)
		wantScan(t, tr, "", "n", -1, pairs("m", "")...)
		if l, err := tr.Pages(); len(l) != 22 || err != api.OK {
			t.Errorf("Pages = %v, %d", l, err)
		}
		wantNoCheck(t, tr, api.ErrFormat) // the other leaf is not as deep
		put(t, tr, "m", "1")
		wantGet(t, tr, "m", "1")
		drop(t, tr, "m")
		wantPairs(t, tr, pairs("z", "")...)
	}
	for _, depth := range []int{21, 22, 40} {
		tr, _ := chain(t, depth)
		wantAll(t, tr, "m", api.ErrFormat)
		wantGet(t, tr, "z", "")
		wantScan(t, tr, "n", "", -1, pairs("z", "")...)
		put(t, tr, "y", "1")
		wantGet(t, tr, "y", "1")
		drop(t, tr, "y")
	}
}

// A tree of the greatest depth stands right, whatever the root has.
func TestP10_4Deepest(t *testing.T) {
	for depth, want := range map[int]api.Errno{20: api.OK, 21: api.ErrFormat} {
		nodes := []api.Node{keys("m")}
		for i := range depth {
			nodes = append(nodes, inner([]int{i}))
		}
		tr, _, _ := of(t, 30, nodes...)
		if want == api.OK {
			wantPairs(t, tr, pairs("m", "")...)
		} else {
			wantAll(t, tr, "m", want)
		}
	}
}

// Pages that are kids of each other: each call ends.
func TestP10_4Round(t *testing.T) {
	for _, nodes := range [][]api.Node{
		{inner([]int{0})},
		{inner([]int{1}), inner([]int{0})},
		{inner([]int{0, 0, 0}, "b", "d")},
		{inner([]int{1, 1, 1}, "b", "n"), inner([]int{0, 1, 0}, "d", "k")},
	} {
		tr, _, _ := of(t, 30, nodes...)
		for _, key := range []string{"", "c", "m", "z"} {
			wantAll(t, tr, key, api.ErrFormat)
		}
	}
}

// many tells a node of so many kids that are all the same page.
func many(kid, count int) api.Node {
	n := inner([]int{kid})
	for i := range count - 1 {
		n.Kids, n.Keys = append(n.Kids, kid), append(n.Keys, strconv.Itoa(100+i))
	}
	return n
}

// A page that is very many kids is read not as often, and nothing of it is told twice.
func TestP10_4Often(t *testing.T) {
	nodes := []api.Node{keys("000", "105", "115", "9")}
	own := []int{0}
	for i := range 20 {
		nodes, own = append(nodes, many(i, 100)), append(own, i+1)
	}
	tr, _, _ := of(t, 50, nodes...)
	wantScan(t, tr, "", "", -1, pairs("000", "", "105", "", "115", "", "9", "")...)
	wantNoCheck(t, tr, api.ErrFormat)
	if l, err := tr.Pages(); !slices.Equal(l, own) || err != api.OK {
		t.Errorf("Pages = %v, %d", l, err)
	}
	put(t, tr, "105", "1")
	drop(t, tr, "105")
	tr, _, _ = of(t, 50, append(nodes, many(20, 100))...)
	wantWhole(t, tr, api.ErrFormat)
}

// As many pages as there are, and no more: what is refused then is brought back by Undo.
func TestP10_4Full(t *testing.T) {
	for count := 1; count < 9; count++ {
		p, d := newPager(t, count)
		tr := open(t, p, -1)
		var l []api.Pair
		put1 := func(i int) api.Errno {
			pair := api.Pair{Key: x(strconv.Itoa(1000+i), 100), Val: x("v", 200)}
			err := tr.Put(pair.Key, pair.Val)
			if err == api.OK {
				l = append(l, pair)
			}
			return err
		}
		err, i := api.OK, 0
		for ; err == api.OK && i < 100; i++ {
			err = put1(i)
		}
		wantErr(t, "Put without a free page", err, api.ErrDisk)
		if len(l) < 3*count/2 {
			t.Errorf("%d pages: there is no room for more than %d pairs", count, len(l))
		}
		p, d = newPager(t, count)
		tr = open(t, p, -1)
		l = nil
		for i := range 3 {
			wantErr(t, "Put", put1(i), api.OK)
		}
		settle(t, p, d)
		root, most := tr.Root(), len(l)
		for err = api.OK; err == api.OK && i < 200; i++ {
			err = put1(i)
		}
		wantErr(t, "Put without a free page", err, api.ErrDisk)
		wantErr(t, "Undo", p.Undo(), api.OK)
		wantPairs(t, open(t, p, root), l[:most]...)
	}
}

// A Drop needs pages too, but for what is gone.
func TestP10_4FullDrop(t *testing.T) {
	tr, p, _ := of(t, 4, keys("a", "b"), keys("k"), inner([]int{0, 1}, "k"))
	wantErr(t, "Drop", tr.Drop("a"), api.ErrDisk)
	wantErr(t, "Undo", p.Undo(), api.OK)
	tr = open(t, p, 2)
	wantPairs(t, tr, pairs("a", "", "b", "", "k", "")...)
	drop(t, tr, "k") // one leaf is left, as it was
	wantRoot(t, tr, 0)
	drop(t, tr, "a")
	wantRoot(t, tr, 3)
	wantPairs(t, tr, pairs("b", "")...)
}

// wide tells a tree with three leaves, one of them with room for one pair less, its pager, its disk and its pairs.
func wide(t *testing.T) (*tree.Tree, *pager.Pager, *block.Disk, []api.Pair) {
	t.Helper()
	full := fill("b1", "b2", "b3", "b4")
	tr, p, d := of(t, 12, keys("a"), full, keys("c", "d"), inner([]int{0, 1, 2}, "b", "c"))
	l, err := tr.Scan("", "", -1)
	if len(l) != 7 || err != api.OK {
		t.Fatalf("Scan: %d pairs, Err %d", len(l), err)
	}
	return tr, p, d, l
}

// The disk dies at each write of a Put and a Drop: ErrDown, and Undo brings back what was settled, whatever stays of the writes.
func TestP10_4Down(t *testing.T) {
	changes := []func(tr *tree.Tree) api.Errno{
		func(tr *tree.Tree) api.Errno { return tr.Put("b5", x("v", 200)) },
		func(tr *tree.Tree) api.Errno { return tr.Put("c", "v") },
		func(tr *tree.Tree) api.Errno { return tr.Drop("a") },
		func(tr *tree.Tree) api.Errno { return tr.Drop("d") },
	}
	for _, change := range changes {
		died := 0
		for fuse := 0; fuse < 60; fuse++ {
			for keep := range 3 {
				tr, p, d, l := wide(t)
				if keep == 2 {
					put(t, tr, "c", "fresh") // pages are written in place then, too
				}
				wantErr(t, "Arm", d.Arm(fuse), api.OK)
				err := change(tr)
				if d.Dead() {
					wantErr(t, "Put or Drop", err, api.ErrDown)
					wantAll(t, tr, "a", api.ErrDown)
					died++
				} else {
					wantErr(t, "Put or Drop", err, api.OK)
				}
				var stays []int
				for i := range d.Pending() {
					if keep > 0 && i%keep == 0 {
						stays = append(stays, i)
					}
				}
				wantErr(t, "Crash", d.Crash(stays), api.OK)
				wantErr(t, "Undo", p.Undo(), api.OK)
				wantPages(t, open(t, p, 3), p, []int{0, 1, 2, 3}, []int{0, 1, 2, 3}, nil, nil)
				wantPairs(t, open(t, p, 3), l...)
			}
		}
		if died < 3*8 {
			t.Errorf("the disk died but %d times", died)
		}
	}
}

// A disk that dies in writing a fresh page is told so, also where no page is free.
func TestP10_4DownFull(t *testing.T) {
	p, d := newPager(t, 1)
	tr := open(t, p, -1)
	put(t, tr, "a", "1")
	for fuse := range 8 {
		wantErr(t, "Arm", d.Arm(fuse), api.OK)
		wantErr(t, "Put", tr.Put("a", "2"), api.ErrDown)
		wantErr(t, "Crash", d.Crash([]int{0, 1, 2, 3, 4, 5, 6, 7}), api.OK)
	}
}

// tall tells a tree whose leaves are so deep; on the way to its last key each node has room for no more. To each other leaf leads a row of nodes with one kid alone.
func tall(t *testing.T, depth int) (*tree.Tree, *pager.Pager, int) {
	t.Helper()
	var nodes []api.Node
	add := func(n api.Node) int {
		nodes = append(nodes, n)
		return len(nodes) - 1
	}
	kid := add(fill(last(1), last(2), last(3)))
	for at := depth - 1; at >= 0; at-- {
		key := func(i int) string { return x(string([]byte{byte(at + 1), byte(i)}), 128) }
		n := api.Node{}
		for i := range 7 {
			first := string([]byte{byte(at + 1)}) // ahead of the key 0, and behind the last one above
			if i > 0 {
				first = key(i - 1)
			}
			row := add(keys(first))
			for range depth - at - 1 {
				row = add(inner([]int{row}))
			}
			n.Kids, n.Keys = append(n.Kids, row), append(n.Keys, key(i))
		}
		n.Kids = append(n.Kids, kid)
		kid = add(n)
	}
	tr, p, _ := of(t, 2000, nodes...)
	return tr, p, 3 + 7*depth
}

// last tells a key that is behind all others of a tall tree's, and too long to stand anywhere without a split.
func last(i int) string {
	return x(string([]byte{200, byte(i)}), 128)
}

// Where all nodes are split up to a new root, and the leaves would be too deep, Put tells so.
func TestP10_4TooDeep(t *testing.T) {
	for _, depth := range []int{19, 20} {
		tr, p, count := tall(t, depth)
		root := tr.Root()
		if n, err := tr.Check(); n != count || err != api.OK {
			t.Fatalf("Check = %d, %d, want %d, 0", n, err, count)
		}
		key := last(4)
		if depth < 20 {
			put(t, tr, key, x("v", 200))
			wantGet(t, tr, key, x("v", 200))
			count++
		} else {
			wantErr(t, "Put", tr.Put(key, x("v", 200)), api.ErrFormat)
			wantErr(t, "Undo", p.Undo(), api.OK)
			tr = open(t, p, root)
		}
		if n, err := tr.Check(); n != count || err != api.OK {
			t.Fatalf("Check = %d, %d, want %d, 0", n, err, count)
		}
	}
}

// whole is the nodes of a tree that stands right, the last one its root, and how many pairs it has.
type whole struct {
	pairs int
	nodes []api.Node
}

func TestP10_5Check(t *testing.T) {
	for i, c := range []whole{
		{1, []api.Node{keys("")}},
		{2, []api.Node{keys("a"), keys("b"), inner([]int{0, 1}, "b")}},
		{2, []api.Node{keys("a"), keys("c"), inner([]int{0, 1}, "b")}},
		{1, []api.Node{keys("a"), inner([]int{0})}},
		{3, []api.Node{keys("a"), keys("f"), inner([]int{0}), inner([]int{1}), inner([]int{2, 3}, "f"), keys("m"), inner([]int{5}), inner([]int{6}), inner([]int{4, 7}, "g")}},
		{4, []api.Node{keys("", "a"), keys("k"), keys("\xff"), inner([]int{0, 1}, "a\x00"), inner([]int{2}), inner([]int{3, 4}, "\xff")}},
	} {
		tr, p, _ := of(t, 12, c.nodes...)
		if n, err := tr.Check(); n != c.pairs || err != api.OK {
			t.Errorf("%d: Check = %d, %d, want %d, 0", i, n, err, c.pairs)
		}
		if l, err := tr.Pages(); len(l) != len(c.nodes) || err != api.OK {
			t.Errorf("%d: Pages = %v, %d", i, l, err)
		}
		if f := p.Free(); f != 12-len(c.nodes) {
			t.Errorf("%d: %d pages are free", i, f)
		}
	}
}

func TestP10_5CheckWrong(t *testing.T) {
	for name, nodes := range map[string][]api.Node{
		"a root without keys":                   {keys()},
		"a leaf without keys":                   {keys("a"), keys(), inner([]int{0, 1}, "b")},
		"a first leaf without keys":             {keys(), keys("b"), inner([]int{0, 1}, "b")},
		"a leaf deeper than that ahead":         {keys("a"), keys("b"), inner([]int{1}), inner([]int{0, 2}, "b")},
		"a leaf less deep":                      {keys("a"), keys("b"), inner([]int{0}), inner([]int{2, 1}, "b")},
		"a key below that ahead":                {keys("a"), keys("b", "d"), inner([]int{0, 1}, "b\x00")},
		"a key that is that behind":             {keys("a", "b"), keys("d"), inner([]int{0, 1}, "b")},
		"a key above that behind":               {keys("a", "c"), keys("d"), inner([]int{0, 1}, "b")},
		"a key of a leaf below one far above":   {keys("a"), keys("b"), keys("d"), inner([]int{0}), inner([]int{1, 2}, "d"), inner([]int{3, 4}, "c")},
		"a key of a leaf above one far above":   {keys("a"), keys("c"), keys("d"), inner([]int{0, 1}, "b"), inner([]int{2}), inner([]int{3, 4}, "c")},
		"a key of a node below one far above":   {keys("a"), keys("d"), keys("e"), inner([]int{0}), inner([]int{1, 2}, "b"), inner([]int{3, 4}, "c")},
		"a key of a node above one far above":   {keys("a"), keys("b"), keys("d"), inner([]int{0, 1}, "d"), inner([]int{2}), inner([]int{3, 4}, "c")},
		"a key of a node that is one far above": {keys("a"), keys("b"), keys("d"), inner([]int{0, 1}, "c"), inner([]int{2}), inner([]int{3, 4}, "c")},
		"a page that is two kids":               {keys("b"), inner([]int{0, 0}, "b")},
		"a page that is two nodes' kid":         {keys("b"), keys("a"), inner([]int{1, 0}, "b"), inner([]int{0}), inner([]int{2, 3}, "b")},
		"a page that is a kid on two levels":    {keys("b"), inner([]int{0}), inner([]int{1, 0}, "c")},
		"a page that is its own kid":            {keys("a"), inner([]int{0, 1}, "b")},
		"a root that is a kid":                  {keys("a"), keys("c"), inner([]int{0, 3}, "b"), inner([]int{1, 2}, "b")},
	} {
		p, _ := newPager(t, 12)
		lay(t, p, nodes...)
		tr := open(t, p, len(nodes)-1)
		if n, err := tr.Check(); n != 0 || err != api.ErrFormat {
			t.Errorf("%s: Check = %d, %d, want 0, ErrFormat", name, n, err)
		}
	}
}

// Pages are told of a tree that does not stand right, too, each once.
func TestP10_5Pages(t *testing.T) {
	p, _ := newPager(t, 12)
	wantPages(t, open(t, p, -1), p, nil, nil, nil, nil)
	lay(t, p, keys("a"), keys(), keys("z"), keys("k"), inner([]int{2, 0, 2}, "c", "d"), inner([]int{4, 3}, "b"))
	wantPages(t, open(t, p, 5), p, []int{0, 2, 3, 4, 5}, nil, []int{0, 1, 2, 3, 4, 5}, nil)
	wantPages(t, open(t, p, 4), p, []int{0, 2, 4}, nil, []int{0, 1, 2, 3, 4, 5}, nil)
	wantPages(t, open(t, p, 1), p, []int{1}, nil, []int{0, 1, 2, 3, 4, 5}, nil)
	if b, err := p.Read(5); err != api.OK || len(b) != api.PageSize {
		t.Fatal(err)
	} else if n, _ := page.Read(b); !same(n, inner([]int{4, 3}, "b")) {
		t.Error("Pages changed a page")
	}
}
