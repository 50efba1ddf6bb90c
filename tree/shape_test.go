package tree_test

import (
	"testing"

	"ambry/api"
	"ambry/block"
	"ambry/page"
	"ambry/pager"
	"ambry/tree"
)

// A settled node is written to a free page, a fresh one in place.
func TestP10_3Place(t *testing.T) {
	p, d := newPager(t, 4)
	tr := open(t, p, -1)
	put(t, tr, "b", "1")
	wantRoot(t, tr, 0)
	put(t, tr, "a", "2")
	drop(t, tr, "b")
	put(t, tr, "c", "3")
	wantRoot(t, tr, 0)
	wantPages(t, tr, p, []int{0}, nil, []int{0}, nil)
	wantNode(t, p, 0, leaf("a", "2", "c", "3"))
	settle(t, p, d)
	put(t, tr, "c", "4")
	wantRoot(t, tr, 1)
	drop(t, tr, "a")
	wantRoot(t, tr, 1)
	wantPages(t, tr, p, []int{1}, nil, []int{1}, []int{0})
	wantNode(t, p, 0, leaf("a", "2", "c", "3"))
	wantNode(t, p, 1, leaf("c", "4"))
	settle(t, p, d)
	drop(t, tr, "c")
	wantRoot(t, tr, -1)
	wantPages(t, tr, p, nil, nil, nil, []int{1})
	put(t, tr, "e", "5")
	wantRoot(t, tr, 0)
	drop(t, tr, "e") // a fresh page that is released is free at once
	wantPages(t, tr, p, nil, nil, nil, []int{1})
}

// of tells the tree of nodes that are laid out, the last one its root, and settled.
func of(t *testing.T, pages int, nodes ...api.Node) (*tree.Tree, *pager.Pager, *block.Disk) {
	t.Helper()
	p, d := newPager(t, pages)
	lay(t, p, nodes...)
	settle(t, p, d)
	return open(t, p, len(nodes)-1), p, d
}

// Just the nodes on the way are written: those that are settled to free pages, those that are fresh in place.
func TestP10_3Way(t *testing.T) {
	tr, p, d := of(t, 12, keys("a"), keys("b"), keys("c"), keys("d"), inner([]int{0, 1}, "b"), inner([]int{2, 3}, "d"), inner([]int{4, 5}, "c"))
	put(t, tr, "bb", "1")
	wantRoot(t, tr, 9)
	wantNode(t, p, 7, leaf("b", "", "bb", "1"))
	wantNode(t, p, 8, inner([]int{0, 7}, "b"))
	wantNode(t, p, 9, inner([]int{8, 5}, "c"))
	wantPages(t, tr, p, []int{0, 2, 3, 5, 7, 8, 9}, []int{0, 2, 3, 5}, []int{7, 8, 9}, []int{1, 4, 6})
	put(t, tr, "bb", "2")
	drop(t, tr, "b")
	put(t, tr, "a", "3")
	wantRoot(t, tr, 9)
	wantNode(t, p, 8, inner([]int{10, 7}, "b"))
	wantNode(t, p, 9, inner([]int{8, 5}, "c"))
	wantPages(t, tr, p, []int{2, 3, 5, 7, 8, 9, 10}, []int{2, 3, 5}, []int{7, 8, 9, 10}, []int{0, 1, 4, 6})
	wantPairs(t, tr, pairs("a", "3", "bb", "2", "c", "", "d", "")...)
	settle(t, p, d)
	put(t, tr, "c", "4")
	wantRoot(t, tr, 4) // what was old is free
	wantPages(t, tr, p, []int{0, 1, 3, 4, 7, 8, 10}, []int{3, 7, 8, 10}, []int{0, 1, 4}, []int{2, 5, 9})
}

// A key stands in the kid behind the last key that is not behind it.
func TestP10_3Which(t *testing.T) {
	nodes := []api.Node{keys("a"), keys("e"), keys("i"), inner([]int{0, 1, 2}, "d", "h")}
	for key, at := range map[string]int{"": 0, "b": 0, "cz": 0, "d": 1, "d\x00": 1, "g": 1, "h": 2, "z": 2} {
		tr, p, _ := of(t, 8, nodes...)
		put(t, tr, key, "")
		n, _ := page.Put(nodes[at], key, "")
		wantNode(t, p, 4, n)
		wantGet(t, tr, key, "")
		drop(t, tr, key)
		wantNode(t, p, 4, nodes[at])
		wantNoGet(t, tr, key, api.ErrNone)
	}
}

// fill tells a leaf of so many keys: each entry has 204 bytes of 1024, so that there is room for five.
func fill(names ...string) api.Node {
	n := api.Node{Leaf: true}
	for _, name := range names {
		n.Keys, n.Vals = append(n.Keys, name), append(n.Vals, x(name, 200))
	}
	return n
}

func TestP10_3SplitRoot(t *testing.T) {
	for settled := range 2 {
		p, d := newPager(t, 6)
		tr := open(t, p, -1)
		for _, key := range []string{"d", "b", "e", "a"} {
			put(t, tr, key, x(key, 200))
		}
		put(t, tr, "c", x("c", 200)[:199])
		wantRoot(t, tr, 0) // there is just room
		if settled > 0 {
			settle(t, p, d)
		}
		put(t, tr, "f", "1")
		whole, _ := page.Put(fill("a", "b", "c", "d", "e"), "f", "1")
		whole.Vals[2] = x("c", 200)[:199]
		left, key, right, _ := page.Split(whole)
		if settled > 0 {
			wantPages(t, tr, p, []int{1, 2, 3}, nil, []int{1, 2, 3}, []int{0})
		} else {
			wantPages(t, tr, p, []int{0, 1, 2}, nil, []int{0, 1, 2}, nil)
		}
		wantRoot(t, tr, 2+settled)
		wantNode(t, p, 0+settled, left)
		wantNode(t, p, 1+settled, right)
		wantNode(t, p, 2+settled, inner([]int{0 + settled, 1 + settled}, key))
		if n, err := tr.Check(); n != 6 || err != api.OK {
			t.Errorf("Check = %d, %d", n, err)
		}
	}
}

// A leaf may be too large because a key's value is another one.
func TestP10_3SplitValue(t *testing.T) {
	p, _ := newPager(t, 6)
	lay(t, p, leaf("a", x("a", 200), "b", x("b", 200), "c", "", "d", x("d", 200), "e", x("e", 200)))
	tr := open(t, p, 0)
	put(t, tr, "c", x("c", 200)) // 1023 bytes
	wantRoot(t, tr, 0)
	put(t, tr, "c", "")
	put(t, tr, "ca", "")
	put(t, tr, "c", x("c", 198)) // 1025 bytes
	left, key, right, _ := page.Split(leaf("a", x("a", 200), "b", x("b", 200), "c", x("c", 198), "ca", "", "d", x("d", 200), "e", x("e", 200)))
	wantRoot(t, tr, 2)
	wantNode(t, p, 0, left)
	wantNode(t, p, 1, right)
	wantNode(t, p, 2, inner([]int{0, 1}, key))
}

// The halves of a leaf stand in the node above in its place, whichever kid it was.
func TestP10_3SplitKid(t *testing.T) {
	for at, name := range []string{"b", "g", "l"} {
		nodes := []api.Node{keys("a"), keys("f"), keys("k"), inner([]int{0, 1, 2}, "f", "k")}
		full := fill(name+"1", name+"2", name+"3", name+"4", name+"5") // with two bytes a key: 1028
		nodes[at] = api.Node{Leaf: true, Keys: full.Keys[:4], Vals: full.Vals[:4]}
		tr, p, _ := of(t, 8, nodes...)
		put(t, tr, full.Keys[4], full.Vals[4])
		left, key, right, _ := page.Split(full)
		wantNode(t, p, 4, left)
		wantNode(t, p, 5, right)
		kids := [][]int{{4, 5, 1, 2}, {0, 4, 5, 2}, {0, 1, 4, 5}}[at]
		between := [][]string{{key, "f", "k"}, {"f", key, "k"}, {"f", "k", key}}[at]
		wantNode(t, p, 6, inner(kids, between...))
		wantRoot(t, tr, 6)
	}
}

// A node above that is too large then is split likewise, up to a new root.
func TestP10_3SplitAbove(t *testing.T) {
	var nodes []api.Node
	root := api.Node{}
	for i, name := range []string{"a", "b", "c", "d", "e", "f", "g", "h"} { // seven keys of 128 bytes: room for no other
		nodes = append(nodes, keys(x(name, 128)))
		root.Kids = append(root.Kids, i)
		if i > 0 {
			root.Keys = append(root.Keys, x(name, 128))
		}
	}
	full := fill(x("c", 128), x("cy", 128), x("cyy", 128), x("cz", 128))
	nodes[2] = api.Node{Leaf: true, Keys: full.Keys[:3], Vals: full.Vals[:3]} // 996 bytes
	tr, p, _ := of(t, 20, append(nodes, root)...)
	put(t, tr, full.Keys[3], full.Vals[3])
	left, key, right, _ := page.Split(full)
	wantNode(t, p, 9, left)
	wantNode(t, p, 10, right)
	root.Keys = []string{x("b", 128), x("c", 128), key, x("d", 128), x("e", 128), x("f", 128), x("g", 128), x("h", 128)}
	root.Kids = []int{0, 1, 9, 10, 3, 4, 5, 6, 7}
	left, key, right, _ = page.Split(root)
	wantNode(t, p, 11, left)
	wantNode(t, p, 12, right)
	wantRoot(t, tr, 13)
	wantNode(t, p, 13, inner([]int{11, 12}, key))
	wantPages(t, tr, p, []int{0, 1, 3, 4, 5, 6, 7, 9, 10, 11, 12, 13}, []int{0, 1, 3, 4, 5, 6, 7}, []int{9, 10, 11, 12, 13}, []int{2, 8})
	if n, err := tr.Check(); n != 11 || err != api.OK {
		t.Errorf("Check = %d, %d", n, err)
	}
}

// A leaf without keys is gone from the node above, with the key ahead of it, or, if it is the first kid, behind it.
func TestP10_3LeafGone(t *testing.T) {
	nodes := []api.Node{keys("a"), keys("f"), keys("k"), keys("p"), inner([]int{0, 1, 2, 3}, "e", "j", "o")}
	for at, want := range []api.Node{
		inner([]int{1, 2, 3}, "j", "o"),
		inner([]int{0, 2, 3}, "j", "o"),
		inner([]int{0, 1, 3}, "e", "o"),
		inner([]int{0, 1, 2}, "e", "j"),
	} {
		tr, p, _ := of(t, 8, nodes...)
		drop(t, tr, nodes[at].Keys[0])
		wantRoot(t, tr, 5)
		wantNode(t, p, 5, want)
		wantPages(t, tr, p, append([]int{}, append(want.Kids, 5)...), want.Kids, []int{5}, []int{at, 4})
	}
}

// A node without kids is gone likewise; one with a kid alone is not, but the root.
func TestP10_3NodeGone(t *testing.T) {
	tr, p, _ := of(t, 20,
		keys("a"), keys("c"), keys("e"), keys("g"), keys("i"), // 0 to 4
		inner([]int{0}), inner([]int{1, 2}, "e"), inner([]int{3, 4}, "h"), // 5 to 7
		inner([]int{5, 6, 7}, "b", "f")) // 8
	drop(t, tr, "a")
	wantRoot(t, tr, 9)
	wantNode(t, p, 9, inner([]int{6, 7}, "f"))
	wantPages(t, tr, p, []int{1, 2, 3, 4, 6, 7, 9}, []int{1, 2, 3, 4, 6, 7}, []int{9}, []int{0, 5, 8})
	drop(t, tr, "i")
	wantRoot(t, tr, 9)
	wantNode(t, p, 10, inner([]int{3}))
	wantNode(t, p, 9, inner([]int{6, 10}, "f"))
	put(t, tr, "z", "") // below the kid alone
	wantNode(t, p, 10, inner([]int{11}))
	wantNode(t, p, 11, keys("g", "z"))
	drop(t, tr, "z")
	drop(t, tr, "g") // the root has one kid alone: it is that kid
	wantRoot(t, tr, 6)
	wantPages(t, tr, p, []int{1, 2, 6}, []int{1, 2, 6}, nil, []int{0, 3, 4, 5, 7, 8})
	drop(t, tr, "c")
	wantRoot(t, tr, 2)
	wantPages(t, tr, p, []int{2}, []int{2}, nil, []int{0, 1, 3, 4, 5, 6, 7, 8})
	drop(t, tr, "e")
	wantRoot(t, tr, -1)
	wantPages(t, tr, p, nil, nil, nil, []int{0, 1, 2, 3, 4, 5, 6, 7, 8})
}

// Where the kid that the root is then has one kid alone, it is that one, and so on; nothing of them is written.
func TestP10_3RootBelow(t *testing.T) {
	for key, root := range map[string]int{"k": 0, "a": 1} {
		tr, p, d := of(t, 9, keys("a"), keys("k"), inner([]int{0}), inner([]int{2}), inner([]int{3}), inner([]int{1}), inner([]int{5}), inner([]int{6}), inner([]int{4, 7}, "k"))
		drop(t, tr, key)
		wantRoot(t, tr, root)
		old := []int{2, 3, 4, 5, 6, 7, 8}
		if root == 0 {
			old = []int{1, 2, 3, 4, 5, 6, 7, 8}
		} else {
			old = append([]int{0}, old...)
		}
		wantPages(t, tr, p, []int{root}, []int{root}, nil, old)
		if d.Pending() != 0 {
			t.Errorf("%d sectors were written", d.Pending())
		}
	}
}

// A tree of a root with one kid alone: behind Put and Drop it is that kid, which needs but one free page.
func TestP10_3RootAlone(t *testing.T) {
	for _, change := range []func(*tree.Tree) api.Errno{
		func(tr *tree.Tree) api.Errno { return tr.Put("b", "") },
		func(tr *tree.Tree) api.Errno { return tr.Drop("aa") },
		func(tr *tree.Tree) api.Errno { return tr.Put("a", "1") },
	} {
		tr, p, _ := of(t, 5, keys("a", "aa"), inner([]int{0}), inner([]int{1}), inner([]int{2}))
		wantRoot(t, tr, 3)
		wantPairs(t, tr, pairs("a", "", "aa", "")...)
		wantErr(t, "Drop", tr.Drop("b"), api.ErrNone)
		wantRoot(t, tr, 3)
		wantErr(t, "Put or Drop", change(tr), api.OK)
		wantRoot(t, tr, 4)
		wantPages(t, tr, p, []int{4}, nil, []int{4}, []int{0, 1, 2, 3})
	}
	tr, p, _ := of(t, 4, keys("a"), inner([]int{0}), inner([]int{1}))
	drop(t, tr, "a")
	wantRoot(t, tr, -1)
	wantPages(t, tr, p, nil, nil, nil, []int{0, 1, 2})
}
