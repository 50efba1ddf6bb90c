package page_test

import (
	"maps"
	"math"
	"slices"
	"testing"

	"ambry/api"
	"ambry/page"
)

// dice are numbers by a short rule.
type dice uint32

// below tells a number from 0 on, and below n.
func (s *dice) below(n int) int {
	*s = *s*1664525 + 1013904223
	return int(*s>>8) % n
}

// text tells a text of at most so many bytes, of few different ones; mostly a short one, now and then one of just so many.
func (s *dice) text(most int) string {
	size := s.below(4)
	switch s.below(6) {
	case 0:
		size = most
	case 1:
		size = s.below(most + 1)
	}
	b := make([]byte, size)
	for i := range b {
		b[i] = "\x00\x01ab\x7f\x80\xff"[s.below(7)]
	}
	return string(b)
}

// key tells a key's text.
func (s *dice) key() string { return s.text(128) }

// val tells a value's text.
func (s *dice) val() string { return s.text(200) }

// keys tells so many keys that rise, or few less.
func (s *dice) keys(count int) []string {
	var l []string
	for range count {
		l = append(l, s.key())
	}
	slices.Sort(l)
	return slices.Compact(l)
}

// node tells a node that stands right, of at most so many keys.
func (s *dice) node(most int) api.Node {
	n := api.Node{Leaf: s.below(2) == 0, Keys: s.keys(s.below(most + 1))}
	for range n.Keys {
		if n.Leaf {
			n.Vals = append(n.Vals, s.val())
		} else {
			n.Kids = append(n.Kids, s.below(16384))
		}
	}
	if !n.Leaf {
		n.Kids = append(n.Kids, s.below(16384))
	}
	return n
}

// plainSize tells a node's size by the chapter's words.
func plainSize(n api.Node) int {
	size := 3
	if !n.Leaf {
		size += 4
	}
	for i, key := range n.Keys {
		size += len(key)
		if n.Leaf {
			size += 3 + len(n.Vals[i])
		} else {
			size += 5
		}
	}
	return size
}

// plainFind tells a key's place by the chapter's words.
func plainFind(n api.Node, key string) (int, bool) {
	at, is := 0, false
	for _, k := range n.Keys {
		if k < key || !n.Leaf && k == key {
			at++
		}
		is = is || n.Leaf && k == key
	}
	return at, is
}

// plainLeft tells how many keys the left one of a split node has, by the chapter's words, or 0: there are too few.
func plainLeft(n api.Node) int {
	most := len(n.Keys) - 1
	if !n.Leaf {
		most--
	}
	for k := 1; k <= most; k++ {
		l := api.Node{Leaf: n.Leaf, Keys: n.Keys[:k]}
		if n.Leaf {
			l.Vals = n.Vals[:k]
		}
		if k == most || plainSize(l) >= plainSize(n)/2 {
			return k
		}
	}
	return 0
}

// Nodes of any keys and values, small ones and those that are too large: all that is told of them, by the chapter's words.
func TestP8Walk(t *testing.T) {
	for seed := range 3000 {
		s := dice(seed)
		n := s.node(1 + s.below(40))
		want := api.OK
		if plainSize(n) > 1024 {
			want = api.ErrBig
		}
		if page.Size(n) != plainSize(n) || page.Check(n) != want {
			t.Fatalf("%v: Size %d, Check %d; want %d, %d", n, page.Size(n), page.Check(n), plainSize(n), want)
		}
		b, err := page.Bytes(n)
		if err != want || want == api.OK && string(b) != plainBytes(n) || want != api.OK && b != nil {
			t.Fatalf("%v: Bytes %x, %d", n, b, err)
		}
		for range 20 {
			key := s.key()
			if len(n.Keys) > 0 && s.below(2) == 0 {
				key = n.Keys[s.below(len(n.Keys))]
			}
			at, is := page.Find(n, key)
			if wantAt, wantIs := plainFind(n, key); at != wantAt || is != wantIs {
				t.Fatalf("%v: Find(%q) = %d, %t, want %d, %t", n, key, at, is, wantAt, wantIs)
			}
		}
		if left := plainLeft(n); left > 0 {
			wantSplit(t, "walk", n, left)
		} else if _, _, _, ok := page.Split(n); ok {
			t.Fatalf("%v is split", n)
		}
	}
}

// A node that is twisted at one place is refused by all, and told of as nothing.
func TestP8_1Twisted(t *testing.T) {
	for seed := range 2000 {
		s := dice(seed)
		n := s.node(12)
		if len(n.Keys) < 2 {
			continue
		}
		at := s.below(len(n.Keys))
		switch s.below(6) {
		case 0: // a key twice, or two that fall
			other := (at + 1) % len(n.Keys)
			n.Keys[max(at, other)] = n.Keys[min(at, other)]
		case 1:
			n.Keys[at] = n.Keys[at] + x("", 129-len(n.Keys[at]))
		case 2:
			n.Vals = append(n.Vals, "")
		case 3:
			n.Kids = append(n.Kids, 5)
		case 4:
			n.Keys = slices.Delete(n.Keys, at, at+1)
		default:
			if n.Leaf {
				n.Vals[at] += x("", 201-len(n.Vals[at]))
			} else {
				n.Kids[at+s.below(2)] = []int{-1, 16384, math.MinInt, math.MaxInt, 1 << 32}[s.below(5)]
			}
		}
		if err := page.Check(n); err != api.ErrArg {
			t.Fatalf("%v: Check %d, want ErrArg", n, err)
		}
		_, errB := page.Bytes(n)
		_, errP := page.Put(n, "a", "1")
		_, okD := page.Drop(n, n.Keys[0])
		_, _, _, okS := page.Split(n)
		if i, is := page.Find(n, "\xff\xff\xff"); errB != api.ErrArg || errP != api.ErrArg || okD || okS || i != 0 || is {
			t.Fatalf("%v: Bytes %d, Put %d, Drop %t, Split %t, Find %d, %t", n, errB, errP, okD, okS, i, is)
		}
	}
}

// smaller tells a node without its last keys, such that it is right.
func smaller(n api.Node) api.Node {
	for plainSize(n) > 1024 {
		last := len(n.Keys) - 1
		n.Keys = n.Keys[:last]
		if n.Leaf {
			n.Vals = n.Vals[:last]
		} else {
			n.Kids = n.Kids[:last+1]
		}
	}
	return n
}

func TestP8_6ThereAndBack(t *testing.T) {
	for seed := range 2000 {
		s := dice(seed)
		n := smaller(s.node(1 + s.below(60)))
		b, err := page.Bytes(n)
		if err != api.OK {
			t.Fatalf("%v: Bytes %d", n, err)
		}
		if back, err := page.Read(b); err != api.OK || !same(back, n) {
			t.Fatalf("%v is read as %v, %d", n, back, err)
		}
	}
}

// wantOwnBytes looks at bytes that nobody may have written: they are refused, or are just those of the node that is read.
func wantOwnBytes(t *testing.T, b []byte) bool {
	t.Helper()
	n, err := page.Read(b)
	if err != api.OK {
		if err != api.ErrFormat || !same(n, api.Node{}) {
			t.Fatalf("Read %v, %d", n, err)
		}
		return false
	}
	own, err := page.Bytes(n)
	if err != api.OK || string(own) != string(b) || page.Check(n) != api.OK || plainBytes(n) != string(b) {
		t.Fatalf("%v is read of bytes that are not its own: %x", n, b)
	}
	return true
}

// Each byte of a node's turned to each other one.
func TestP8_6EachByte(t *testing.T) {
	for _, n := range []api.Node{leaf("", "", "b", "12", "c\x00", "3"), {Keys: []string{"", "b", "dd"}, Kids: []int{0, 16383, 258, 7}}} {
		whole := plainBytes(n)
		taken := 0
		for at := range 1024 {
			if at == 40 { // noughts behind: few of them are looked at
				at = 1023
			}
			for v := range 256 {
				b := []byte(whole)
				b[at] = byte(v)
				if wantOwnBytes(t, b) {
					taken++
				} else if string(b) == whole {
					t.Fatal("the node's own bytes are refused")
				}
			}
			if at == 1023 {
				break
			}
		}
		if taken < 1000 {
			t.Errorf("%v: only %d of the bytes alike are taken", n, taken)
		}
	}
}

// Some bytes of a node's turned, some put in, some taken out; and rows of few different bytes.
func TestP8_6ManyBytes(t *testing.T) {
	for seed := range 6000 {
		s := dice(seed)
		b := []byte(plainBytes(smaller(s.node(1 + s.below(30)))))
		switch s.below(4) {
		case 0:
			for i := range 40 {
				b[i] = "\x00\x00\x00\x01\x02ILab\x80"[s.below(10)]
			}
		case 1:
			at := s.below(60)
			b = slices.Insert(b[:1023:1023], at, byte(s.below(256)))
		case 2:
			at := s.below(60)
			b = append(slices.Delete(b, at, at+1), byte(s.below(2)))
		default:
			for range 1 + s.below(3) {
				b[s.below(40)] = byte(s.below(256))
			}
		}
		wantOwnBytes(t, b)
	}
}

// joined tells the node of both that a node was split into.
func joined(l api.Node, key string, r api.Node) api.Node {
	n := api.Node{Leaf: l.Leaf, Vals: slices.Concat(l.Vals, r.Vals), Kids: slices.Concat(l.Kids, r.Kids)}
	if l.Leaf {
		n.Keys = slices.Concat(l.Keys, r.Keys)
	} else {
		n.Keys = slices.Concat(l.Keys, []string{key}, r.Keys)
	}
	return n
}

// wantHalves looks at both that a node is split into: they are right, joined they are the whole, and key stands between.
func wantHalves(t *testing.T, n api.Node) {
	t.Helper()
	l, key, r, ok := page.Split(n)
	if !ok {
		t.Fatalf("%v is not split", n)
	}
	if page.Check(l) != api.OK || page.Check(r) != api.OK || len(l.Keys) == 0 || len(r.Keys) == 0 {
		t.Fatalf("%v is split into what is not right: %v, %v", n, l, r)
	}
	if whole := joined(l, key, r); !same(whole, n) {
		t.Fatalf("%v is split into %v, %q, %v", n, l, key, r)
	}
	last, first := l.Keys[len(l.Keys)-1], r.Keys[0]
	if n.Leaf && (last >= key || first != key) || !n.Leaf && (last >= key || first <= key) {
		t.Fatalf("%v: the key %q does not stand between %v and %v", n, key, l, r)
	}
}

// more tells a node with a key more, at a place, and a value or a kid with it.
func (s *dice) more(n api.Node) api.Node {
	key := s.key()
	at, there := slices.BinarySearch(n.Keys, key)
	if there {
		return n
	}
	n = copied(n)
	n.Keys = slices.Insert(n.Keys, at, key)
	if n.Leaf {
		n.Vals = slices.Insert(n.Vals, at, s.val())
	} else {
		n.Kids = slices.Insert(n.Kids, at+1, s.below(16384))
	}
	return n
}

func TestP8_7Halves(t *testing.T) {
	split := 0
	for seed := range 4000 {
		s := dice(seed)
		n := s.more(smaller(s.node(1 + s.below(60))))
		if plainLeft(n) > 0 {
			wantHalves(t, n)
			split++
		}
	}
	if split < 2000 {
		t.Errorf("only %d nodes were split", split)
	}
}

// The greatest keys and values at each place of full nodes, and full nodes behind them.
func TestP8_7Greatest(t *testing.T) {
	for size := range 129 {
		for place := range 6 {
			l, in := leaf(), inner()
			for i := range 40 {
				key, val := x(string([]byte{byte(i)}), 1+size%128), ""
				if i == place {
					key, val = x(key[:1], 128), x("", 200)
				}
				l.Keys, l.Vals = append(l.Keys, key), append(l.Vals, val)
				in.Keys, in.Kids = append(in.Keys, key), append(in.Kids, i)
			}
			for _, n := range []api.Node{smaller(l), smaller(in)} {
				wantHalves(t, n)
				for _, first := range []string{"", string([]byte{byte(place), 'y'}), "\xff"} {
					key := x(first, 128)
					at, _ := slices.BinarySearch(n.Keys, key)
					m := copied(n)
					m.Keys = slices.Insert(m.Keys, at, key)
					if m.Leaf {
						m.Vals = slices.Insert(m.Vals, at, x("", 200))
					} else {
						m.Kids = slices.Insert(m.Kids, at, 16383)
					}
					wantHalves(t, m)
				}
			}
		}
	}
}

// wantPairs looks at whether a leaf has just these keys and values.
func wantPairs(t *testing.T, n api.Node, pairs map[string]string) {
	t.Helper()
	keys := slices.Sorted(maps.Keys(pairs))
	if !n.Leaf || len(n.Kids) != 0 || !slices.Equal(n.Keys, keys) || len(n.Vals) != len(keys) {
		t.Fatalf("keys %q, want %q", n.Keys, keys)
	}
	for i, key := range keys {
		if at, is := page.Find(n, key); at != i || !is || n.Vals[i] != pairs[key] {
			t.Fatalf("%q: Find %d, %t, a value of %d bytes; want %d, true, %d", key, at, is, len(n.Vals[i]), i, len(pairs[key]))
		}
	}
}

// Rows of Put and Drop, held against a map: what was put is found, and all others as they were; and nodes told ahead stay as they are.
func TestP8_8Put(t *testing.T) {
	for seed := range 80 {
		s := dice(seed)
		n, pairs := leaf(), map[string]string{}
		elder, was := n, copied(n)
		for turn := range 300 {
			key := s.key()
			if len(pairs) > 0 && s.below(2) == 0 {
				key = n.Keys[s.below(len(n.Keys))]
			}
			if _, there := pairs[key]; s.below(5) < 2 {
				m, ok := page.Drop(n, key)
				if ok != there || !ok && !same(m, api.Node{}) {
					t.Fatalf("Drop(%q): %v, %t, want %t", key, m, ok, there)
				}
				delete(pairs, key)
				if ok {
					n = m
				}
			} else {
				val := s.val()
				m, err := page.Put(n, key, val)
				if err != api.OK {
					t.Fatalf("Put(%q): %d", key, err)
				}
				n, pairs[key] = m, val
			}
			wantPairs(t, n, pairs)
			if !same(elder, was) {
				t.Fatal("a leaf that was told ahead is another one now")
			}
			if turn%7 == 0 {
				elder, was = n, copied(n)
			}
		}
	}
}
