package page_test

import (
	"bytes"
	"math"
	"slices"
	"strings"
	"testing"

	"ambry/api"
	"ambry/page"
)

// leaf tells a leaf of keys and values, one behind the other.
func leaf(pairs ...string) api.Node {
	n := api.Node{Leaf: true}
	for i := 0; i < len(pairs); i += 2 {
		n.Keys, n.Vals = append(n.Keys, pairs[i]), append(n.Vals, pairs[i+1])
	}
	return n
}

// inner tells a node of so many keys, and of the kids 7, 8, .. about them.
func inner(keys ...string) api.Node {
	n := api.Node{Keys: keys}
	for i := range len(keys) + 1 {
		n.Kids = append(n.Kids, 7+i)
	}
	return n
}

// kids tells a node of kids, and of the keys a, b, .. between them.
func kids(l ...int) api.Node {
	n := api.Node{Kids: l}
	for i := 1; i < len(l); i++ {
		n.Keys = append(n.Keys, string(rune('a'+i-1)))
	}
	return n
}

// x tells a text of so many bytes, the first ones of which are given.
func x(first string, size int) string {
	return first + strings.Repeat("x", size-len(first))
}

// same tells whether two nodes are the same.
func same(a, b api.Node) bool {
	return a.Leaf == b.Leaf && slices.Equal(a.Keys, b.Keys) && slices.Equal(a.Vals, b.Vals) && slices.Equal(a.Kids, b.Kids)
}

// copied tells a node alike that shares nothing, with room behind each list's end, and something there.
func copied(n api.Node) api.Node {
	return api.Node{
		Leaf: n.Leaf,
		Keys: append(slices.Clone(n.Keys), "behind", "behind")[:len(n.Keys)],
		Vals: append(slices.Clone(n.Vals), "behind", "behind")[:len(n.Vals)],
		Kids: append(slices.Clone(n.Kids), -5, -5)[:len(n.Kids)],
	}
}

// untouched tells whether a node that copied told is as it was, behind its lists' ends too.
func untouched(n, was api.Node) bool {
	c := copied(was)
	return same(n, was) && slices.Equal(n.Keys[:len(n.Keys)+2], c.Keys[:len(c.Keys)+2]) &&
		slices.Equal(n.Vals[:len(n.Vals)+2], c.Vals[:len(c.Vals)+2]) && slices.Equal(n.Kids[:len(n.Kids)+2], c.Kids[:len(c.Kids)+2])
}

// spoil writes over all that a node has, and over what room there is behind.
func spoil(n api.Node) {
	for _, l := range [][]string{n.Keys, n.Vals} {
		l = l[:cap(l)]
		for i := range l {
			l[i] = "spoilt"
		}
	}
	kids := n.Kids[:cap(n.Kids)]
	for i := range kids {
		kids[i] = -9
	}
}

// twisted are nodes that do not stand right.
func twisted() map[string]api.Node {
	return map[string]api.Node{
		"leaf, a key twice":                   leaf("a", "1", "a", "2"),
		"leaf, the empty key twice":           leaf("", "1", "", "2"),
		"leaf, keys fall":                     leaf("b", "1", "a", "2"),
		"leaf, the last keys fall":            leaf("a", "", "b", "", "d", "", "c", ""),
		"leaf, a key behind those it begins":  leaf("ab", "", "a", ""),
		"leaf, high bytes ahead of low ones":  leaf("\x80", "", "\x7f", ""),
		"leaf, a key too long":                leaf(x("a", 129), ""),
		"leaf, the last key too long":         leaf("a", "", x("b", 129), ""),
		"leaf, a value too long":              leaf("a", x("1", 201)),
		"leaf, the last value too long":       leaf("a", "", "b", x("1", 201)),
		"leaf, no value":                      {Leaf: true, Keys: []string{"a"}},
		"leaf, a value too few":               {Leaf: true, Keys: []string{"a", "b"}, Vals: []string{"1"}},
		"leaf, a value too many":              {Leaf: true, Keys: []string{"a"}, Vals: []string{"1", "2"}},
		"leaf, a value of no key":             {Leaf: true, Vals: []string{""}},
		"leaf with a kid":                     {Leaf: true, Kids: []int{1}},
		"leaf with values and kids":           {Leaf: true, Keys: []string{"a"}, Vals: []string{"1"}, Kids: []int{1, 2}},
		"leaf with kids and no values":        {Leaf: true, Keys: []string{"a"}, Kids: []int{1, 2}},
		"no kid":                              {},
		"as many kids as keys":                {Keys: []string{"a"}, Kids: []int{1}},
		"two kids more than keys":             {Keys: []string{"a"}, Kids: []int{1, 2, 3}},
		"kids and no keys":                    {Kids: []int{1, 2}},
		"kids and values":                     {Keys: []string{"a"}, Vals: []string{""}, Kids: []int{1, 2}},
		"kids and a value of no key":          {Vals: []string{"1"}, Kids: []int{1}},
		"a kid below 0":                       kids(-1),
		"the last kid below 0":                kids(1, 2, -1),
		"the least number as a kid":           kids(math.MinInt, 1),
		"a kid of MaxSectors":                 kids(16384),
		"the last kid of MaxSectors":          kids(1, 2, 16384),
		"a kid of 2^32 and 1":                 kids(1<<32+1, 1),
		"the greatest number as a kid":        kids(1, math.MaxInt, 1),
		"kids, a key twice":                   inner("a", "a"),
		"kids, keys fall":                     inner("a", "c", "b"),
		"kids, a key too long":                inner("a", x("b", 129)),
		"leaf, keys fall, and far too large":  leaf("b", x("1", 200), "a", x("1", 200), "c", x("1", 200), "d", x("1", 200), "e", x("1", 200), "f", x("1", 200)),
		"kids, no keys rise, far too large":   inner(slices.Repeat([]string{x("a", 128)}, 9)...),
		"leaf, a value and a key far too big": leaf(x("a", 2000), x("1", 2000)),
	}
}

// shortKeys are the empty key and keys of a byte, so many in all.
func shortKeys(count int) []string {
	l := []string{""}
	for i := range count - 1 {
		l = append(l, string([]byte{byte(i)}))
	}
	return l
}

// manyLeaf tells a leaf of 255 keys: one more takes four bytes more than there are.
func manyLeaf() api.Node {
	n := api.Node{Leaf: true, Keys: shortKeys(255), Vals: make([]string, 255)}
	n.Vals[9] = "12"
	return n
}

// manyKids tells a node of 170 kids.
func manyKids() api.Node {
	return inner(shortKeys(169)...)
}

// fullLeaf tells a leaf of four keys, of just a page, when the last value has 24 bytes.
func fullLeaf(last int) api.Node {
	return leaf(x("a", 128), x("1", 200), x("b", 128), x("2", 200), x("c", 128), x("3", 200), "d", x("4", last))
}

// fullKids tells a node of nine kids, of just a page, when the last key has 81 bytes.
func fullKids(last int) api.Node {
	return inner(x("a", 128), x("b", 128), x("c", 128), x("d", 128), x("e", 128), x("f", 128), x("g", 128), x("h", last))
}

// evenLeaf tells a leaf of seven keys, a, b, .., that are of the same size with their values.
func evenLeaf() api.Node {
	v := x("", 200)
	return leaf("a", v, "b", v, "c", v, "d", v, "e", v, "f", v, "g", v)
}

// evenKids tells a node of nine keys of the same size.
func evenKids() api.Node {
	return inner(x("a", 128), x("b", 128), x("c", 128), x("d", 128), x("e", 128), x("f", 128), x("g", 128), x("h", 128), x("i", 128))
}

// sized is a node, and how large it is.
type sized struct {
	name string
	n    api.Node
	size int
}

// right are nodes that are right, and their sizes.
func right() []sized {
	return []sized{
		{"leaf without keys", leaf(), 3},
		{"the example", leaf("a", "1"), 8},
		{"the empty key, and no value", leaf("", ""), 6},
		{"keys by their bytes", leaf("", "1", "\x00", "", "A", "", "a", "", "a\x00", "", "aa", "", "\x7f", "", "\x80", "", "\xff", "3"), 3 + 9*3 + 10 + 2},
		{"the longest key and value", leaf(x("a", 128), x("1", 200)), 3 + 3 + 128 + 200},
		{"leaf of just a page", fullLeaf(24), 1024},
		{"leaf of as many keys as there may be", manyLeaf(), 1024},
		{"one kid", kids(0), 7},
		{"the example's kids", api.Node{Keys: []string{"b", "d"}, Kids: []int{5, 6, 7}}, 19},
		{"the least and the greatest kid", kids(0, 16383, 0, 16383), 7 + 3*6},
		{"kids all alike", kids(9, 9, 9), 7 + 2*6},
		{"the empty key between kids", inner("", x("z", 128)), 7 + 2*5 + 128},
		{"kids about as many keys as there may be", manyKids(), 7 + 169*5 + 168},
		{"kids of just a page", fullKids(81), 1024},
	}
}

// large are nodes that stand right, but are too large, and their sizes.
func large() []sized {
	return []sized{
		{"leaf, one more than a page, by a value", fullLeaf(25), 1025},
		{"leaf, one more than a page, by a key", leaf(x("a", 128), x("1", 200), x("b", 128), x("2", 200), x("c", 128), x("3", 200), "dd", x("4", 24)), 1025},
		{"leaf of too many keys", api.Node{Leaf: true, Keys: shortKeys(256), Vals: make([]string, 256)}, 1026},
		{"kids about too many keys", inner(shortKeys(170)...), 7 + 170*5 + 169},
		{"leaf, far more", evenLeaf(), 3 + 7*204},
		{"kids, one more than a page", fullKids(82), 1025},
		{"kids, far more", evenKids(), 7 + 9*133},
	}
}

// plainBytes tells a node's bytes by the chapter's words, with noughts behind up to a page, if there is room.
func plainBytes(n api.Node) string {
	two := func(i int) string { return string([]byte{byte(i >> 8), byte(i)}) }
	four := func(i int) string { return two(i>>16) + two(i) }
	s := "I" + two(len(n.Keys))
	if n.Leaf {
		s = "L" + two(len(n.Keys))
	} else {
		s += four(n.Kids[0])
	}
	for i, key := range n.Keys {
		s += string([]byte{byte(len(key))}) + key
		if n.Leaf {
			s += two(len(n.Vals[i])) + n.Vals[i]
		} else {
			s += four(n.Kids[i+1])
		}
	}
	return s + strings.Repeat("\x00", max(0, 1024-len(s)))
}

func TestP8_1Size(t *testing.T) {
	for _, c := range slices.Concat(right(), large()) {
		if got := page.Size(c.n); got != c.size {
			t.Errorf("%s: Size %d, want %d", c.name, got, c.size)
		}
	}
}

// A size is told of any node: of a leaf from its keys and values, of any other from its keys.
func TestP8_1SizeOfAny(t *testing.T) {
	cases := []struct {
		name string
		n    api.Node
		want int
	}{
		{"nothing", api.Node{}, 7},
		{"values without keys", api.Node{Leaf: true, Vals: []string{"abc", "de"}}, 8},
		{"keys without values", api.Node{Leaf: true, Keys: []string{"abc", "de"}}, 14},
		{"a leaf's kids count for nothing", api.Node{Leaf: true, Keys: []string{"a"}, Vals: []string{"1"}, Kids: []int{1, 2, 3}}, 8},
		{"values beside kids count for nothing", api.Node{Keys: []string{"a"}, Vals: []string{"123"}, Kids: []int{1, 2}}, 13},
		{"kids are counted by keys", api.Node{Keys: []string{"a"}, Kids: []int{1, 2, 3, 4}}, 13},
		{"keys that fall", leaf("b", "1", "a", "2"), 13},
		{"long ones", leaf(x("a", 2000), x("1", 3000)), 5006},
		{"long keys about kids", inner(x("a", 2000), x("a", 3000)), 5017},
	}
	for _, c := range cases {
		if got := page.Size(c.n); got != c.want {
			t.Errorf("%s: Size %d, want %d", c.name, got, c.want)
		}
	}
}

func TestP8_1Check(t *testing.T) {
	for _, c := range right() {
		if err := page.Check(c.n); err != api.OK {
			t.Errorf("%s: Check %d, want 0", c.name, err)
		}
	}
	for _, c := range large() {
		if err := page.Check(c.n); err != api.ErrBig {
			t.Errorf("%s: Check %d, want ErrBig", c.name, err)
		}
	}
	for name, n := range twisted() {
		if err := page.Check(n); err != api.ErrArg {
			t.Errorf("%s: Check %d, want ErrArg", name, err)
		}
	}
}

func TestP8_2Bytes(t *testing.T) {
	cases := []struct {
		n    api.Node
		want string
	}{
		{leaf(), "\x4c\x00\x00"},
		{leaf("a", "1"), "\x4c\x00\x01\x01\x61\x00\x01\x31"},
		{leaf("", "", "b\x00", "\x00"), "\x4c\x00\x02\x00\x00\x00\x02b\x00\x00\x01\x00"},
		{leaf(x("k", 128), x("v", 200)), "\x4c\x00\x01\x80" + x("k", 128) + "\x00\xc8" + x("v", 200)},
		{kids(258), "\x49\x00\x00\x00\x00\x01\x02"},
		{api.Node{Keys: []string{"b", "d"}, Kids: []int{5, 16383, 0}}, "\x49\x00\x02\x00\x00\x00\x05\x01b\x00\x00\x3f\xff\x01d\x00\x00\x00\x00"},
	}
	for _, c := range cases {
		b, err := page.Bytes(c.n)
		if err != api.OK || len(b) != 1024 || string(b) != c.want+strings.Repeat("\x00", 1024-len(c.want)) {
			t.Errorf("Bytes(%v) = %x.. (%d), %d; want %x", c.n, b[:min(len(b), 24)], len(b), err, c.want)
		}
	}
	for _, c := range right() {
		b, err := page.Bytes(c.n)
		if err != api.OK || string(b) != plainBytes(c.n) {
			t.Errorf("%s: Bytes %x, %d", c.name, b, err)
		}
	}
}

func TestP8_2BytesRefused(t *testing.T) {
	for name, n := range twisted() {
		if b, err := page.Bytes(n); b != nil || err != api.ErrArg {
			t.Errorf("%s: Bytes %d, %d; want none, ErrArg", name, len(b), err)
		}
	}
	for _, c := range large() {
		if b, err := page.Bytes(c.n); b != nil || err != api.ErrBig {
			t.Errorf("%s: Bytes %d, %d; want none, ErrBig", c.name, len(b), err)
		}
	}
}

// filled tells a page that begins with bytes, noughts behind.
func filled(s string) []byte {
	return append([]byte(s), make([]byte, 1024-len(s))...)
}

func TestP8_2Read(t *testing.T) {
	for _, c := range right() {
		b := []byte(plainBytes(c.n))
		n, err := page.Read(b)
		if err != api.OK || !same(n, c.n) {
			t.Errorf("%s: Read %v, %d", c.name, n, err)
		}
		if string(b) != plainBytes(c.n) {
			t.Errorf("%s: Read changed its bytes", c.name)
		}
	}
}

func TestP8_2ReadRefused(t *testing.T) {
	full := plainBytes(fullLeaf(24))
	cases := map[string][]byte{
		"none":                         nil,
		"no bytes":                     {},
		"a leaf cut off":               []byte("L\x00\x00"),
		"a byte too few":               filled("L\x00\x01\x01a\x00\x011")[:1023],
		"a byte too many":              append(filled("L\x00\x01\x01a\x00\x011"), 0),
		"two pages":                    append(filled("L\x00\x00"), filled("L\x00\x00")...),
		"a full page and a byte":       append([]byte(full), 0),
		"a full page cut off":          []byte(full)[:1023],
		"noughts":                      filled(""),
		"another mark":                 filled("K\x00\x01\x01a\x00\x011"),
		"another mark about kids":      filled("M\x00\x00\x00\x00\x00\x05"),
		"the mark of kids on a leaf":   filled("I\x00\x01\x01a\x00\x011"),
		"a leaf's mark on kids":        filled("L\x00\x01\x00\x00\x00\x05\x01a\x00\x00\x00\x06"),
		"something behind a leaf":      filled("L\x00\x01\x01a\x00\x0112"),
		"something behind kids":        filled("I\x00\x00\x00\x00\x00\x05\x01"),
		"something at the end":         append(filled("L\x00\x01\x01a\x00\x011")[:1023], 1),
		"a key too few is told":        filled("L\x00\x01\x01a\x00\x011\x01b\x00\x012"),
		"a key too many is told":       filled("L\x00\x03\x01a\x00\x011\x01b\x00\x012"),
		"a key too many about kids":    filled("I\x00\x02\x00\x00\x00\x05\x01a\x00\x00\x00\x06"),
		"two empty keys":               filled("L\x00\x02"),
		"a key twice":                  filled("L\x00\x02\x01a\x00\x011\x01a\x00\x012"),
		"keys fall":                    filled("L\x00\x02\x01b\x00\x011\x01a\x00\x012"),
		"keys fall about kids":         filled("I\x00\x02\x00\x00\x00\x05\x01b\x00\x00\x00\x06\x01a\x00\x00\x00\x07"),
		"a key too long":               filled("L\x00\x01\x81" + x("a", 129) + "\x00\x00"),
		"a key of 255 bytes":           filled("L\x00\x01\xff" + x("a", 255) + "\x00\x00"),
		"a key too long about kids":    filled("I\x00\x01\x00\x00\x00\x05\x81" + x("a", 129) + "\x00\x00\x00\x06"),
		"a value too long":             filled("L\x00\x01\x01a\x00\xc9" + x("1", 201)),
		"a value of 256 bytes":         filled("L\x00\x01\x01a\x01\x00" + x("1", 256)),
		"a value of far more bytes":    filled("L\x00\x01\x01a\xff\xff"),
		"a value out of the page":      []byte(full[:999] + "\x1a" + full[1000:]),
		"a kid of MaxSectors":          filled("I\x00\x00\x00\x00\x40\x00"),
		"the last kid of MaxSectors":   filled("I\x00\x01\x00\x00\x00\x05\x01a\x00\x00\x40\x00"),
		"a kid of all ones":            filled("I\x00\x00\xff\xff\xff\xff"),
		"a kid of the highest bit":     filled("I\x00\x00\x80\x00\x00\x05"),
		"as many keys as there may be": filled("L\xff\xff"),
		"as many about kids":           filled("I\xff\xff"),
		"all ones":                     bytes.Repeat([]byte{255}, 1024),
		"marks of a leaf":              bytes.Repeat([]byte("L"), 1024),
		"marks of kids":                bytes.Repeat([]byte("I"), 1024),
	}
	for name, b := range cases {
		was := string(b)
		if n, err := page.Read(b); err != api.ErrFormat || !same(n, api.Node{}) {
			t.Errorf("%s: Read %v, %d; want none, ErrFormat", name, n, err)
		}
		if string(b) != was {
			t.Errorf("%s: Read changed its bytes", name)
		}
	}
}

// A node of one byte more than a page has no bytes, though they begin as a node's do.
func TestP8_2ReadOfTooLarge(t *testing.T) {
	for _, c := range large() {
		if s := plainBytes(c.n); len(s) != c.size {
			t.Fatalf("%s: %d bytes, want %d", c.name, len(s), c.size)
		}
		for _, b := range []string{plainBytes(c.n), plainBytes(c.n)[:1024]} {
			if n, err := page.Read([]byte(b)); err != api.ErrFormat || !same(n, api.Node{}) {
				t.Errorf("%s, %d bytes: Read %v, %d; want none, ErrFormat", c.name, len(b), n, err)
			}
		}
	}
}

func TestP8_2NewMemory(t *testing.T) {
	for _, c := range right() {
		n := copied(c.n)
		one, _ := page.Bytes(n)
		two, _ := page.Bytes(n)
		for i := range one {
			one[i] = 255
		}
		if string(two) != plainBytes(c.n) || !untouched(n, c.n) {
			t.Errorf("%s: Bytes shares its answer, or changed the node", c.name)
		}
		first, _ := page.Read(two)
		second, _ := page.Read(two)
		spoil(first)
		for i := range two {
			two[i] = 255
		}
		if !same(second, c.n) {
			t.Errorf("%s: Read shares its answer: %v", c.name, second)
		}
	}
}

func TestP8_3FindInLeaf(t *testing.T) {
	n := leaf("", "1", "b", "", "b\x00", "", "d", "", "\x80", "", "\xff", "")
	cases := []struct {
		key  string
		want int
		is   bool
	}{
		{"", 0, true}, {"\x00", 1, false}, {"a", 1, false}, {"b", 1, true}, {"b\x00", 2, true}, {"b\x00\x00", 3, false}, {"b\x01", 3, false},
		{"c", 3, false}, {"d", 3, true}, {"da", 4, false}, {"\x7f", 4, false}, {"\x80", 4, true}, {"\xfe", 5, false}, {"\xff", 5, true},
		{"\xff\x00", 6, false}, {x("", 500), 4, false}, {x("\xff", 5000), 6, false},
	}
	for _, c := range cases {
		if at, is := page.Find(n, c.key); at != c.want || is != c.is {
			t.Errorf("Find(%q) = %d, %t, want %d, %t", c.key, at, is, c.want, c.is)
		}
	}
	for _, key := range []string{"", "a"} {
		if at, is := page.Find(leaf(), key); at != 0 || is {
			t.Errorf("Find(%q) in a leaf without keys = %d, %t", key, at, is)
		}
	}
	if at, is := page.Find(leaf("a", "1"), "b"); at != 1 || is {
		t.Errorf("Find(b) = %d, %t, want 1, false", at, is)
	}
}

func TestP8_3FindKid(t *testing.T) {
	n := inner("b", "b\x00", "d", "\xff")
	cases := map[string]int{
		"": 0, "a": 0, "a\xff": 0, "b": 1, "b\x00": 2, "b\x00\x00": 2, "c": 2, "d": 3, "d\x00": 3, "\xfe": 3, "\xff": 4, "\xff\xff": 4, x("e", 600): 3,
	}
	for key, want := range cases {
		if at, is := page.Find(n, key); at != want || is {
			t.Errorf("Find(%q) = %d, %t, want %d, false", key, at, is, want)
		}
	}
	for key, want := range map[string]int{"a": 0, "b": 1, "c": 1, "d": 2, "z": 2} {
		if at, is := page.Find(api.Node{Keys: []string{"b", "d"}, Kids: []int{5, 6, 7}}, key); at != want || is {
			t.Errorf("the example: Find(%q) = %d, %t, want %d, false", key, at, is, want)
		}
	}
	for _, key := range []string{"", "a"} {
		if at, is := page.Find(kids(5), key); at != 0 || is {
			t.Errorf("Find(%q) of one kid = %d, %t", key, at, is)
		}
		if at, is := page.Find(inner(""), key); at != 1 || is {
			t.Errorf("Find(%q) of two kids about the empty key = %d, %t", key, at, is)
		}
	}
}

// Each place in rows of each length, so that no way of halves is missed; in nodes that are too large too.
func TestP8_3EachPlace(t *testing.T) {
	for count := range 400 {
		l, in := leaf(), inner()
		for i := range count {
			key := string([]byte{byte(2 * i >> 8), byte(2 * i), 5})
			l.Keys, l.Vals = append(l.Keys, key), append(l.Vals, "")
			in.Keys, in.Kids = append(in.Keys, key), append(in.Kids, i)
		}
		for i := range 2*count + 1 {
			key := string([]byte{byte((i - 1) >> 8), byte(i - 1), 5})
			if i == 0 {
				key = ""
			}
			if at, is := page.Find(l, key); at != i/2 || is != (i%2 == 1) {
				t.Fatalf("leaf of %d keys: Find(%x) = %d, %t, want %d, %t", count, key, at, is, i/2, i%2 == 1)
			}
			if at, is := page.Find(in, key); at != (i+1)/2 || is {
				t.Fatalf("node of %d keys: Find(%x) = %d, %t, want %d, false", count, key, at, is, (i+1)/2)
			}
		}
	}
}

func TestP8_3FindInTwisted(t *testing.T) {
	for name, n := range twisted() {
		for _, key := range slices.Concat(n.Keys, []string{"", "a", "b", "\xff"}) {
			if at, is := page.Find(n, key); at != 0 || is {
				t.Errorf("%s: Find(%q) = %d, %t, want 0, false", name, key, at, is)
			}
		}
	}
}

func TestP8_4Put(t *testing.T) {
	cases := []struct {
		name     string
		n        api.Node
		key, val string
		want     api.Node
	}{
		{"into none", leaf(), "m", "1", leaf("m", "1")},
		{"the empty ones into none", leaf(), "", "", leaf("", "")},
		{"ahead", leaf("m", "1"), "b", "2", leaf("b", "2", "m", "1")},
		{"behind", leaf("m", "1"), "x", "2", leaf("m", "1", "x", "2")},
		{"between", leaf("b", "1", "x", "2"), "m", "3", leaf("b", "1", "m", "3", "x", "2")},
		{"the empty key ahead", leaf("\x00", "1"), "", "2", leaf("", "2", "\x00", "1")},
		{"behind one that begins it", leaf("a", "1", "b", "2"), "aa", "3", leaf("a", "1", "aa", "3", "b", "2")},
		{"by bytes", leaf("a", "1", "\xff", "2"), "\x80", "3", leaf("a", "1", "\x80", "3", "\xff", "2")},
		{"the first one's value", leaf("a", "1", "b", "2", "c", "3"), "a", "4", leaf("a", "4", "b", "2", "c", "3")},
		{"a middle one's value", leaf("a", "1", "b", "2", "c", "3"), "b", "", leaf("a", "1", "b", "", "c", "3")},
		{"the last one's value", leaf("a", "1", "b", "2", "c", "3"), "c", "44", leaf("a", "1", "b", "2", "c", "44")},
		{"the same value", leaf("a", "1"), "a", "1", leaf("a", "1")},
		{"the longest ones", leaf("b", "1"), x("a", 128), x("2", 200), leaf(x("a", 128), x("2", 200), "b", "1")},
	}
	for _, c := range cases {
		n := copied(c.n)
		got, err := page.Put(n, c.key, c.val)
		if err != api.OK || !same(got, c.want) {
			t.Errorf("%s: Put %v, %d; want %v", c.name, got, err, c.want)
		}
		if !untouched(n, c.n) {
			t.Errorf("%s: Put changed the node", c.name)
		}
	}
}

// What is put may be larger than may be, and into what is so.
func TestP8_4PutTooLarge(t *testing.T) {
	full := fullLeaf(24)
	n, err := page.Put(full, "d", x("4", 25))
	if err != api.OK || page.Check(n) != api.ErrBig || !same(n, fullLeaf(25)) {
		t.Errorf("Put into a full leaf: %v, %d", n, err)
	}
	n, err = page.Put(n, "e", x("5", 200))
	if err != api.OK || page.Size(n) != 1025+3+1+200 || len(n.Keys) != 5 || n.Vals[4] != x("5", 200) {
		t.Errorf("Put into what is too large: %v, %d", n, err)
	}
}

func TestP8_4PutRefused(t *testing.T) {
	type put struct {
		n        api.Node
		key, val string
	}
	cases := map[string]put{
		"key too long":                  {leaf(), x("a", 129), ""},
		"value too long":                {leaf("a", "1"), "a", x("1", 201)},
		"value of a new key too long":   {leaf("a", "1"), "b", x("1", 201)},
		"key and value far too long":    {leaf("a", "1"), x("b", 9000), x("1", 9000)},
		"into kids":                     {inner("b"), "a", "1"},
		"into kids, a key that is one":  {inner("a"), "a", "1"},
		"into one kid":                  {kids(4), "a", "1"},
		"into kids, with a key too big": {inner("b"), x("a", 129), "1"},
		"into nothing":                  {api.Node{}, "a", "1"},
	}
	for name, n := range twisted() {
		cases["into: "+name] = put{n, "a", "1"}
		cases["into, behind: "+name] = put{n, "zz", "1"}
	}
	for name, c := range cases {
		n := copied(c.n)
		got, err := page.Put(n, c.key, c.val)
		if err != api.ErrArg || !same(got, api.Node{}) {
			t.Errorf("%s: Put %v, %d; want none, ErrArg", name, got, err)
		}
		if !untouched(n, c.n) {
			t.Errorf("%s: Put changed the node", name)
		}
	}
}

func TestP8_4Drop(t *testing.T) {
	n := leaf("", "0", "a", "1", "b", "2", "c", "3")
	cases := map[string]api.Node{
		"":  leaf("a", "1", "b", "2", "c", "3"),
		"a": leaf("", "0", "b", "2", "c", "3"),
		"b": leaf("", "0", "a", "1", "c", "3"),
		"c": leaf("", "0", "a", "1", "b", "2"),
	}
	for key, want := range cases {
		m := copied(n)
		got, ok := page.Drop(m, key)
		if !ok || !same(got, want) {
			t.Errorf("Drop(%q) = %v, %t, want %v", key, got, ok, want)
		}
		if !untouched(m, n) {
			t.Errorf("Drop(%q) changed the node", key)
		}
	}
	if got, ok := page.Drop(leaf("a", "1"), "a"); !ok || !same(got, leaf()) || page.Check(got) != api.OK {
		t.Errorf("Drop of the last key = %v, %t", got, ok)
	}
	if got, ok := page.Drop(fullLeaf(25), "d"); !ok || len(got.Keys) != 3 || page.Check(got) != api.OK {
		t.Errorf("Drop from what is too large = %v, %t", got, ok)
	}
}

func TestP8_4DropRefused(t *testing.T) {
	type drop struct {
		n   api.Node
		key string
	}
	cases := map[string]drop{
		"from none":              {leaf(), ""},
		"no such key, ahead":     {leaf("b", "1", "d", "2"), "a"},
		"no such key, between":   {leaf("b", "1", "d", "2"), "c"},
		"no such key, behind":    {leaf("b", "1", "d", "2"), "e"},
		"the beginning of a key": {leaf("bb", "1"), "b"},
		"a key and more":         {leaf("b", "1"), "bb"},
		"the empty key":          {leaf("b", "1"), ""},
		"a key far too long":     {leaf("b", "1"), x("b", 9000)},
		"from kids":              {inner("a", "b"), "a"},
		"from one kid":           {kids(3), ""},
		"from nothing":           {api.Node{}, ""},
	}
	for name, n := range twisted() {
		for i, key := range n.Keys {
			cases["from: "+name+", key "+string(rune('0'+i))] = drop{n, key}
		}
		cases["from: "+name] = drop{n, "a"}
	}
	for name, c := range cases {
		n := copied(c.n)
		if got, ok := page.Drop(n, c.key); ok || !same(got, api.Node{}) {
			t.Errorf("%s: Drop %v, %t; want none, false", name, got, ok)
		}
		if !untouched(n, c.n) {
			t.Errorf("%s: Drop changed the node", name)
		}
	}
}

func TestP8_4NewMemory(t *testing.T) {
	n := leaf("a", "1", "b", "2", "c", "3")
	for name, call := range map[string]func(n api.Node) api.Node{
		"Put ahead":      func(n api.Node) api.Node { m, _ := page.Put(n, "", "0"); return m },
		"Put behind":     func(n api.Node) api.Node { m, _ := page.Put(n, "d", "4"); return m },
		"Put of a value": func(n api.Node) api.Node { m, _ := page.Put(n, "b", "5"); return m },
		"the same value": func(n api.Node) api.Node { m, _ := page.Put(n, "b", "2"); return m },
		"Drop of a":      func(n api.Node) api.Node { m, _ := page.Drop(n, "a"); return m },
		"Drop of c":      func(n api.Node) api.Node { m, _ := page.Drop(n, "c"); return m },
	} {
		given := copied(n)
		one, two := call(given), call(given)
		want := copied(two)
		spoil(one)
		if !untouched(given, n) {
			t.Errorf("%s: an answer shares memory with the node", name)
		}
		spoil(given)
		if !same(two, want) {
			t.Errorf("%s: an answer shares memory with another one, or with the node", name)
		}
	}
}

// wantSplit looks at how a node is split: how many keys the left one has.
func wantSplit(t *testing.T, name string, n api.Node, left int) {
	t.Helper()
	given := copied(n)
	l, key, r, ok := page.Split(given)
	between := 1
	wantL, wantR := api.Node{}, api.Node{}
	if n.Leaf {
		between = 0
		wantL = api.Node{Leaf: true, Keys: n.Keys[:left], Vals: n.Vals[:left]}
		wantR = api.Node{Leaf: true, Keys: n.Keys[left:], Vals: n.Vals[left:]}
	} else {
		wantL = api.Node{Keys: n.Keys[:left], Kids: n.Kids[:left+1]}
		wantR = api.Node{Keys: n.Keys[left+between:], Kids: n.Kids[left+1:]}
	}
	if !ok || key != n.Keys[left] || !same(l, wantL) || !same(r, wantR) {
		t.Errorf("%s: Split %v, %q, %v, %t; want %v, %q, %v", name, l, key, r, ok, wantL, n.Keys[left], wantR)
	}
	if !untouched(given, n) {
		t.Errorf("%s: Split changed the node", name)
	}
}

func TestP8_5Split(t *testing.T) {
	v := func(size int) string { return x("", size) }
	cases := []struct {
		name string
		n    api.Node
		left int
	}{
		{"two keys", leaf("a", "1", "b", "2"), 1},
		{"two keys, the first one's value long", leaf("a", v(200), "b", "2"), 1},
		{"two keys, the second one's value long", leaf("a", "1", "b", v(200)), 1},
		{"two keys without bytes", leaf("", "", "\x00", ""), 1},
		{"seven of the same size", evenLeaf(), 4},
		{"three, the first one long", leaf("a", v(200), "b", "", "c", ""), 1},
		{"three, the middle one long", leaf("a", "", "b", v(200), "c", ""), 2},
		{"three, the last one long: none is enough", leaf("a", "", "b", "", "c", v(200)), 2},
		{"five, the last one long: none is enough", leaf("a", "", "b", "", "c", "", "d", "", "e", v(200)), 4},
		// The left one's size is 3 and its entries' of 4 and the values' bytes: the first one's is 13.
		{"just half", leaf("a", v(6), "b", v(3), "c", v(2)), 1},
		{"a half less than half, which counts for less", leaf("a", v(6), "b", v(3), "c", v(3)), 1},
		{"one less than half", leaf("a", v(6), "b", v(3), "c", v(4)), 2},
		{"one less and a half", leaf("a", v(6), "b", v(4), "c", v(4)), 2},
		{"just half with all but one", leaf("a", v(1), "b", v(1), "c", v(6)), 2},
		{"keys count as values do", leaf(v(7), "", "y", v(3), "z", v(3)), 1},
		{"keys count as values do, one less", leaf(v(7), "", "y", v(4), "z", v(3)), 2},
		{"three keys about kids", inner("a", "b", "c"), 1},
		{"three keys about kids, the last one long", inner("a", "b", x("c", 128)), 1},
		{"three keys about kids, the first one long", inner(x("a", 128), "b", "c"), 1},
		{"four about kids", api.Node{Keys: []string{"a", "b", "c", "d"}, Kids: []int{1, 2, 3, 4, 5}}, 2},
		{"four about kids, the first one long", inner(x("a", 128), "b", "c", "d"), 1},
		{"four about kids, the last one long: none is enough", inner("a", "b", "c", x("d", 128)), 2},
		{"six about kids, the last two long: none is enough", inner("a", "b", "c", "d", x("e", 128), x("f", 128)), 4},
		{"nine about kids of the same size", evenKids(), 5},
		// The left one's size is 7 and its entries' of 5 and the keys' bytes: the first one's is 20.
		{"about kids, just half", inner(x("a", 8), "b", "c", "\xff"), 1},
		{"about kids, a half less than half, which counts for less", inner(x("a", 8), "b", "c", "dd"), 1},
		{"about kids, one less than half", inner(x("a", 8), "b", "c", "ddddd"), 2},
		{"kids alike", kids(3, 3, 3, 3), 1},
	}
	for _, c := range cases {
		wantSplit(t, c.name, c.n, c.left)
	}
}

func TestP8_5SplitRefused(t *testing.T) {
	cases := map[string]api.Node{
		"leaf without keys":   leaf(),
		"leaf of one key":     leaf("a", "1"),
		"leaf of a long one":  leaf(x("a", 128), x("1", 200)),
		"one kid":             kids(1),
		"one key about kids":  kids(1, 2),
		"two keys about kids": kids(1, 2, 3),
		"two long ones":       inner(x("a", 128), x("b", 128)),
	}
	for name, n := range twisted() {
		cases[name] = n
	}
	for _, n := range []api.Node{ // many keys, but for one thing right
		{Leaf: true, Keys: []string{"a", "b", "c", "d", "d"}, Vals: make([]string, 5)},
		{Leaf: true, Keys: []string{"a", "b", "c", "d", "e"}, Vals: make([]string, 4)},
		{Leaf: true, Keys: []string{"a", "b", "c", "d", "e"}, Vals: make([]string, 5), Kids: []int{1}},
		{Keys: []string{"a", "b", "c", "d", "e"}, Kids: make([]int, 5)},
		{Keys: []string{"a", "b", "c", "d", "e"}, Kids: make([]int, 7)},
		{Keys: []string{"a", "b", "c", "d", "e"}, Vals: make([]string, 5), Kids: make([]int, 6)},
		{Keys: []string{"a", "b", "c", "d", "e"}, Kids: []int{1, 2, 3, 4, 5, 16384}},
	} {
		cases[plainName(n)] = n
	}
	for name, n := range cases {
		given := copied(n)
		l, key, r, ok := page.Split(given)
		if ok || key != "" || !same(l, api.Node{}) || !same(r, api.Node{}) {
			t.Errorf("%s: Split %v, %q, %v, %t; want none, false", name, l, key, r, ok)
		}
		if !untouched(given, n) {
			t.Errorf("%s: Split changed the node", name)
		}
	}
}

// plainName tells a node's name from what it has.
func plainName(n api.Node) string {
	name := "kids"
	if n.Leaf {
		name = "leaf"
	}
	for _, count := range []int{len(n.Keys), len(n.Vals), len(n.Kids)} {
		name += " " + string(rune('0'+count))
	}
	return name
}

func TestP8_5NewMemory(t *testing.T) {
	for _, n := range []api.Node{evenLeaf(), evenKids()} {
		given := copied(n)
		l1, _, r1, _ := page.Split(given)
		l2, key, r2, ok := page.Split(given)
		wantL, wantR := copied(l2), copied(r2)
		spoil(l1)
		if !same(r1, wantR) {
			t.Error("the right one shares memory with the left one")
		}
		spoil(r1)
		if !untouched(given, n) {
			t.Error("an answer shares memory with the node")
		}
		spoil(given)
		if !ok || key != "e" && key != x("f", 128) || !same(l2, wantL) || !same(r2, wantR) {
			t.Error("an answer shares memory with another one, or with the node")
		}
	}
}
