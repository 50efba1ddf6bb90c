package tree_test

import (
	"math"
	"slices"
	"strings"
	"testing"

	"ambry/api"
	"ambry/block"
	"ambry/page"
	"ambry/pager"
	"ambry/tree"
)

// newPager tells a pager of n pages, and its disk, which has nothing else.
func newPager(t *testing.T, n int) (*pager.Pager, *block.Disk) {
	t.Helper()
	d, err := block.New(n * api.PageSectors)
	wantErr(t, "block.New", err, api.OK)
	p, err := pager.New(d, 0, n)
	wantErr(t, "pager.New", err, api.OK)
	return p, d
}

// open tells the tree of a root.
func open(t *testing.T, p *pager.Pager, root int) *tree.Tree {
	t.Helper()
	x, err := tree.Open(p, root)
	if err != api.OK || x == nil {
		t.Fatalf("Open(%d): Err %d, a tree %t; want one", root, err, x != nil)
	}
	return x
}

// wantErr looks at how a call was answered.
func wantErr(t *testing.T, call string, got, want api.Errno) {
	t.Helper()
	if got != want {
		t.Fatalf("%s: Err %d, want %d", call, got, want)
	}
}

// wantRoot looks at a tree's root.
func wantRoot(t *testing.T, x *tree.Tree, want int) {
	t.Helper()
	if got := x.Root(); got != want {
		t.Fatalf("Root = %d, want %d", got, want)
	}
}

// pairs tells pairs of keys and values that stand one behind the other.
func pairs(texts ...string) []api.Pair {
	var l []api.Pair
	for i := 0; i < len(texts); i += 2 {
		l = append(l, api.Pair{Key: texts[i], Val: texts[i+1]})
	}
	return l
}

// wantScan looks at a part of a tree's pairs.
func wantScan(t *testing.T, x *tree.Tree, from, to string, most int, want ...api.Pair) {
	t.Helper()
	if l, err := x.Scan(from, to, most); !slices.Equal(l, want) || err != api.OK {
		t.Fatalf("Scan(%.9q, %.9q, %d) = %.99q, %d, want %.99q, 0", from, to, most, l, err, want)
	}
}

// wantPairs looks at all that a tree tells of its pairs, which rise.
func wantPairs(t *testing.T, x *tree.Tree, want ...api.Pair) {
	t.Helper()
	wantScan(t, x, "", "", -1, want...)
	if n, err := x.Check(); n != len(want) || err != api.OK {
		t.Fatalf("Check = %d, %d, want %d, 0", n, err, len(want))
	}
	for _, pair := range want {
		wantGet(t, x, pair.Key, pair.Val)
	}
}

// wantGet looks at a key's value.
func wantGet(t *testing.T, x *tree.Tree, key, want string) {
	t.Helper()
	if val, err := x.Get(key); val != want || err != api.OK {
		t.Fatalf("Get(%.9q) = %.9q, %d, want %.9q, 0", key, val, err, want)
	}
}

// wantNoGet looks at a key's value that is to be refused.
func wantNoGet(t *testing.T, x *tree.Tree, key string, want api.Errno) {
	t.Helper()
	if val, err := x.Get(key); val != "" || err != want {
		t.Fatalf("Get(%.9q) = %.9q, %d, want none, %d", key, val, err, want)
	}
}

// wantAll looks at how each call that reads the way to a key, or all, is answered: with an error, and nothing beside it.
func wantAll(t *testing.T, x *tree.Tree, key string, want api.Errno) {
	t.Helper()
	wantNoGet(t, x, key, want)
	wantErr(t, "Put", x.Put(key, "v"), want)
	wantErr(t, "Drop", x.Drop(key), want)
	if l, err := x.Scan(key, key+"\x00", -1); len(l) != 0 || err != want {
		t.Fatalf("Scan of a key: %d pairs, %d, want none, %d", len(l), err, want)
	}
	wantWhole(t, x, want)
}

// wantWhole looks at how each call that reads all is answered, with an error.
func wantWhole(t *testing.T, x *tree.Tree, want api.Errno) {
	t.Helper()
	if l, err := x.Scan("", "", -1); len(l) != 0 || err != want {
		t.Fatalf("Scan: %d pairs, %d, want none, %d", len(l), err, want)
	}
	if l, err := x.Pages(); len(l) != 0 || err != want {
		t.Fatalf("Pages = %v, %d, want none, %d", l, err, want)
	}
	wantNoCheck(t, x, want)
}

// wantNoCheck looks at a Check that is to be refused.
func wantNoCheck(t *testing.T, x *tree.Tree, want api.Errno) {
	t.Helper()
	if n, err := x.Check(); n != 0 || err != want {
		t.Fatalf("Check = %d, %d, want 0, %d", n, err, want)
	}
}

// put puts a key that is to be taken.
func put(t *testing.T, x *tree.Tree, key, val string) {
	t.Helper()
	if err := x.Put(key, val); err != api.OK {
		t.Fatalf("Put(%.9q, %.9q): Err %d", key, val, err)
	}
}

// drop drops a key that is there.
func drop(t *testing.T, x *tree.Tree, key string) {
	t.Helper()
	if err := x.Drop(key); err != api.OK {
		t.Fatalf("Drop(%.9q): Err %d", key, err)
	}
}

// x tells a text of so many bytes.
func x(first string, size int) string {
	return first + strings.Repeat("x", size-len(first))
}

// leaf tells the leaf of keys and values that stand one behind the other.
func leaf(texts ...string) api.Node {
	n := api.Node{Leaf: true}
	for _, pair := range pairs(texts...) {
		n.Keys, n.Vals = append(n.Keys, pair.Key), append(n.Vals, pair.Val)
	}
	return n
}

// keys tells the leaf of keys without values.
func keys(keys ...string) api.Node {
	return api.Node{Leaf: true, Keys: keys, Vals: make([]string, len(keys))}
}

// inner tells a node of kids, and the keys between them.
func inner(kids []int, keys ...string) api.Node {
	return api.Node{Kids: kids, Keys: keys}
}

// lay writes nodes to free pages, from the first one on.
func lay(t *testing.T, p *pager.Pager, nodes ...api.Node) {
	t.Helper()
	for i, n := range nodes {
		b, err := page.Bytes(n)
		wantErr(t, "page.Bytes", err, api.OK)
		at, err := p.Write(b)
		if at != i || err != api.OK {
			t.Fatalf("Write = %d, %d, want %d, 0", at, err, i)
		}
	}
}

// settle lets what was written stay.
func settle(t *testing.T, p *pager.Pager, d *block.Disk) {
	t.Helper()
	wantErr(t, "Flush", d.Flush(), api.OK)
	wantErr(t, "Settle", p.Settle(), api.OK)
}

// die lets a disk die.
func die(t *testing.T, d *block.Disk) {
	t.Helper()
	wantErr(t, "Arm(0)", d.Arm(0), api.OK)
	wantErr(t, "Flush", d.Flush(), api.ErrDown)
}

// wantNode looks at a page's node.
func wantNode(t *testing.T, p *pager.Pager, at int, want api.Node) {
	t.Helper()
	b, err := p.Read(at)
	wantErr(t, "Read of a page", err, api.OK)
	n, err := page.Read(b)
	if err != api.OK || !same(n, want) {
		t.Fatalf("the page %d has %v, %d, want %v", at, n, err, want)
	}
}

// same tells whether two nodes are alike.
func same(m, n api.Node) bool {
	return m.Leaf == n.Leaf && slices.Equal(m.Keys, n.Keys) && slices.Equal(m.Vals, n.Vals) && slices.Equal(m.Kids, n.Kids)
}

// wantPages looks at all that is told of pages: which ones are the tree's, and which ones are settled, fresh and old.
func wantPages(t *testing.T, x *tree.Tree, p *pager.Pager, own, settled, fresh, old []int) {
	t.Helper()
	if l, err := x.Pages(); !slices.Equal(l, own) || err != api.OK {
		t.Fatalf("Pages = %v, %d, want %v, 0", l, err, own)
	}
	a, b, c := p.Pages()
	if !slices.Equal(a, settled) || !slices.Equal(b, fresh) || !slices.Equal(c, old) {
		t.Fatalf("the pager's pages are %v, %v, %v, want %v, %v, %v", a, b, c, settled, fresh, old)
	}
}

// far are numbers that are no page's of a small pager.
var far = []int{math.MinInt, -1 << 32, -3, -2, 4, 5, 1 << 14, 1 << 32, math.MaxInt}

func TestP10Example(t *testing.T) {
	p, _ := newPager(t, 4)
	x := open(t, p, -1)
	put(t, x, "b", "1")
	put(t, x, "a", "2")
	put(t, x, "b", "3")
	wantPairs(t, x, pairs("a", "2", "b", "3")...)
	drop(t, x, "a")
	drop(t, x, "b")
	wantRoot(t, x, -1)
	wantPairs(t, x)
	wantNoGet(t, x, "a", api.ErrNone)
}

func TestP10NoTree(t *testing.T) {
	for _, no := range []*tree.Tree{nil, {}} {
		wantRoot(t, no, -1)
		for _, key := range []string{"", "a", x("k", 129)} {
			wantAll(t, no, key, api.ErrNil)
			wantErr(t, "Put of too much", no.Put(key, x("v", 201)), api.ErrNil)
		}
		wantRoot(t, no, -1)
	}
}

func TestP10_1Open(t *testing.T) {
	p, d := newPager(t, 4) // a page of each kind
	for range 3 {
		p.Write(nil)
	}
	p.Release(2)
	p.Settle()
	p.Release(1)
	p.Write(nil)
	wantPages(t, open(t, p, -1), p, nil, []int{0}, []int{2}, []int{1})
	for dead := range 2 {
		if dead > 0 {
			die(t, d) // nothing is read
		}
		for root := -1; root < 4; root++ {
			wantRoot(t, open(t, p, root), root)
		}
		for _, root := range far {
			if x, err := tree.Open(p, root); x != nil || err != api.ErrArg {
				t.Errorf("Open(%d): a tree %t, Err %d, want none, ErrArg", root, x != nil, err)
			}
		}
	}
	wantPages(t, open(t, p, -1), p, nil, []int{0}, []int{2}, []int{1})
}

func TestP10_1OpenNoPager(t *testing.T) {
	for _, p := range []*pager.Pager{nil, {}} {
		for _, root := range append([]int{-1, 0}, far...) {
			if x, err := tree.Open(p, root); x != nil || err != api.ErrNil {
				t.Errorf("Open(%d) of no pager: a tree %t, Err %d, want none, ErrNil", root, x != nil, err)
			}
		}
	}
}

// some tells a tree of three leaves under a root, and its pairs.
func some(t *testing.T) (*tree.Tree, []api.Pair) {
	t.Helper()
	p, d := newPager(t, 8)
	lay(t, p,
		leaf("", "0", "a", "1", "b", ""),
		leaf("d", "2", "da", x("v", 200), "f", "3"),
		leaf(x("g", 128), "4", "z", "5", "\xff", "6"),
		inner([]int{0, 1, 2}, "d", "g"))
	settle(t, p, d)
	long := x("v", 200)
	return open(t, p, 3), pairs("", "0", "a", "1", "b", "", "d", "2", "da", long, "f", "3", x("g", 128), "4", "z", "5", "\xff", "6")
}

func TestP10_2Get(t *testing.T) {
	tr, l := some(t)
	wantPairs(t, tr, l...)
	for _, key := range []string{"\x00", "A", "aa", "c", "d\x00", "e", "g", x("g", 127), x("g", 129), "zz", "\xfe", "\xff\x00", "\xff\xff", x("k", 5000)} {
		wantNoGet(t, tr, key, api.ErrNone)
	}
	p, _ := newPager(t, 1)
	empty := open(t, p, -1)
	for _, key := range []string{"", "a", x("k", 129)} {
		wantNoGet(t, empty, key, api.ErrNone)
	}
}

func TestP10_2Scan(t *testing.T) {
	tr, l := some(t)
	bounds := []string{"", "\x00", "a", "a\x00", "b", "c", "d", "d\x00", "da", "e", "f", "g", x("g", 128), x("g", 129), "z", "\xff", "\xff\x00"}
	for _, from := range bounds {
		for _, to := range bounds {
			var want []api.Pair
			for _, pair := range l {
				if pair.Key >= from && (to == "" || pair.Key < to) {
					want = append(want, pair)
				}
			}
			for most := range len(want) + 3 {
				wantScan(t, tr, from, to, most, want[:min(most, len(want))]...)
			}
			for _, most := range []int{-1, -2, math.MinInt, math.MaxInt} {
				wantScan(t, tr, from, to, most, want...)
			}
		}
	}
}

func TestP10_2ScanNone(t *testing.T) {
	p, _ := newPager(t, 1)
	for _, most := range []int{-1, 0, 1, math.MinInt, math.MaxInt} {
		wantScan(t, open(t, p, -1), "", "", most)
		wantScan(t, open(t, p, -1), "a", "z", most)
	}
}

// An answer is new memory.
func TestP10_2NewMemory(t *testing.T) {
	tr, l := some(t)
	a, _ := tr.Scan("", "", -1)
	b, _ := tr.Scan("", "", -1)
	for i := range a {
		a[i] = api.Pair{Key: "spoilt", Val: "spoilt"}
	}
	if !slices.Equal(b, l) {
		t.Error("two answers share memory")
	}
	pages, _ := tr.Pages()
	more, _ := tr.Pages()
	for i := range pages {
		pages[i] = 7
	}
	if !slices.Equal(more, []int{0, 1, 2, 3}) {
		t.Error("two answers share memory")
	}
	wantPairs(t, tr, l...)
}

func TestP10_3Refused(t *testing.T) {
	p, d := newPager(t, 4)
	tr := open(t, p, -1)
	refused := func() {
		t.Helper()
		wantErr(t, "Put of a long key", tr.Put(x("k", 129), ""), api.ErrArg)
		wantErr(t, "Put of a long value", tr.Put("", x("v", 201)), api.ErrArg)
		wantErr(t, "Put of both", tr.Put(x("k", 5000), x("v", 5000)), api.ErrArg)
	}
	refused()
	wantErr(t, "Drop of an empty tree", tr.Drop("a"), api.ErrNone)
	wantErr(t, "Drop of an empty tree", tr.Drop(""), api.ErrNone)
	wantPages(t, tr, p, nil, nil, nil, nil)
	put(t, tr, x("k", 128), x("v", 200))
	settle(t, p, d)
	for range 2 {
		refused()
		for _, key := range []string{"", "k", x("k", 127), x("k", 129), x("k", 5000)} {
			wantErr(t, "Drop of no key", tr.Drop(key), api.ErrNone)
		}
		if d.Pending() != 0 {
			t.Errorf("%d sectors were written", d.Pending())
		}
		wantRoot(t, tr, 0)
		wantPages(t, tr, p, []int{0}, []int{0}, nil, nil)
		wantPairs(t, tr, pairs(x("k", 128), x("v", 200))...)
	}
	die(t, d) // what is too long is told ahead of what can't be read
	refused()
}

// What has greatest and least sizes is put, and got.
func TestP10_3Sizes(t *testing.T) {
	p, _ := newPager(t, 8)
	tr := open(t, p, -1)
	put(t, tr, "", "")
	wantPairs(t, tr, pairs("", "")...)
	put(t, tr, "", x("v", 200))
	put(t, tr, x("k", 128), "")
	put(t, tr, x("k", 128), x("w", 200))
	put(t, tr, x("k", 127), "\x00\xff")
	wantPairs(t, tr, pairs("", x("v", 200), x("k", 127), "\x00\xff", x("k", 128), x("w", 200))...)
	drop(t, tr, "")
	wantPairs(t, tr, pairs(x("k", 127), "\x00\xff", x("k", 128), x("w", 200))...)
}
