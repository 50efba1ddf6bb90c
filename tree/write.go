package tree

import (
	"slices"

	"ambry/api"
	"ambry/page"
)

// row is what stands in a node for one of its kids that was written anew: one kid, two and the key between them, or none.
type row struct {
	keys []string
	kids []int
}

// in tells the node in which a row stands instead of a kid. With a kid that is gone the key ahead of it is gone, or that behind the first one.
func (r row) in(n api.Node, kid int) api.Node {
	keys := slices.Concat(n.Keys[:kid], r.keys, n.Keys[kid:])
	if len(r.kids) == 0 && len(keys) > 0 {
		gone := max(kid-1, 0)
		keys = slices.Delete(keys, gone, gone+1)
	}
	return api.Node{Keys: keys, Kids: slices.Concat(n.Kids[:kid], r.kids, n.Kids[kid+1:])}
}

// replace lets another leaf stand at the end of a path, and writes all nodes on the way anew. Those at its beginning that have one kid alone are none of the tree's then.
func (t *Tree) replace(way []step, leaf api.Node) {
	for len(way[0].node.Kids) == 1 {
		t.release(way[0].page)
		way = way[1:]
	}
	last := len(way) - 1
	n, at := leaf, way[last].page
	for _, s := range slices.Backward(way[:last]) {
		n, at = t.save(at, n).in(s.node, s.kid), s.page
	}
	t.root = t.crown(at, n, last)
}

// crown lets a node be the root, written anew instead of a page, and tells its page. The leaves below are so deep.
func (t *Tree) crown(at int, n api.Node, depth int) int {
	if len(n.Kids) == 1 {
		t.release(at)
		return t.sole(n.Kids[0])
	}
	r := t.save(at, n)
	switch len(r.kids) {
	case 0:
		return none
	case 1:
		return r.kids[0]
	}
	if depth == deepest { // no call could read the leaves again
		panic(api.ErrFormat)
	}
	return t.write(none, api.Node{Keys: r.keys, Kids: r.kids})
}

// sole tells the first page, from one on downwards, that has not one kid alone, and releases those above it.
func (t *Tree) sole(at int) int {
	for depth := 0; ; depth++ {
		n := t.sound(at, depth)
		if len(n.Kids) != 1 {
			return at
		}
		t.release(at)
		at = n.Kids[0]
	}
}

// save writes a node instead of a page, in halves if it is too large, and tells what stands for it in the node above. A leaf without keys, or a node without kids, is gone.
func (t *Tree) save(at int, n api.Node) row {
	if len(n.Keys) == 0 && len(n.Kids) == 0 {
		t.release(at)
		return row{}
	}
	if page.Size(n) <= api.PageSize {
		return row{kids: []int{t.write(at, n)}}
	}
	left, key, right, _ := page.Split(n)
	first := t.write(at, left)
	second := t.write(none, right)
	return row{keys: []string{key}, kids: []int{first, second}}
}

// write writes a node in place of a page, if that is fresh; else to a free one. It tells where the node is.
func (t *Tree) write(at int, n api.Node) int {
	b, err := page.Bytes(n)
	must(err)
	err = t.pager.Rewrite(at, b)
	if err == api.OK {
		return at
	}
	if err != api.ErrNone {
		panic(err)
	}
	i, err := t.pager.Write(b)
	must(err)
	t.release(at)
	return i
}

// release lets a page go. That of an elder root's may be released already, and none is no page: both may be refused.
func (t *Tree) release(at int) {
	t.pager.Release(at)
}
