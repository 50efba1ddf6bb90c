package space_test

import (
	"math"
	"slices"
	"strings"
	"testing"

	"ambry/api"
	"ambry/space"
)

// puts tells a change of a key to a value.
func puts(key, val string) api.Change {
	return api.Change{Key: key, Val: val}
}

// drops tells a change by which a key is gone.
func drops(key string) api.Change {
	return api.Change{Key: key, Del: true}
}

// changes tells a list of changes.
func changes(l ...api.Change) []api.Change {
	return l
}

// has tells a version with a value.
func has(time int, val string) api.Version {
	return api.Version{Time: time, Val: val}
}

// gone tells a version without one.
func gone(time int) api.Version {
	return api.Version{Time: time, Del: true}
}

// item tells a key with its versions.
func item(key string, l ...api.Version) api.Item {
	return api.Item{Key: key, Versions: l}
}

// items tells a list of items.
func items(l ...api.Item) []api.Item {
	return l
}

// pairs tells the pairs of keys and values that stand in turn.
func pairs(l ...string) []api.Pair {
	var out []api.Pair
	for i := 0; i < len(l); i += 2 {
		out = append(out, api.Pair{Key: l[i], Val: l[i+1]})
	}
	return out
}

// long tells a text of so many bytes.
func long(size int) string {
	return strings.Repeat("x", size)
}

// far are times that are no version's, or the last ones that are.
var far = []int{math.MinInt, math.MinInt + 1, -1 << 60, -1 << 32, -2, -1, 1 << 60, 1<<60 + 1, math.MaxInt - 1, math.MaxInt}

// apply applies changes that are to be.
func apply(t *testing.T, s *space.Space, time int, l ...api.Change) {
	t.Helper()
	wantApply(t, "right changes", s, time, l, api.OK)
}

// load tells the space of items that are as they must be.
func load(t *testing.T, l []api.Item, last, mark int) *space.Space {
	t.Helper()
	s, err := space.Load(l, last, mark)
	if s == nil || err != api.OK {
		t.Fatalf("Load(%v, %d, %d) = %v, %d, want a space, 0", l, last, mark, s, err)
	}
	return s
}

// sameItem tells whether two items are alike.
func sameItem(a, b api.Item) bool {
	return a.Key == b.Key && slices.Equal(a.Versions, b.Versions)
}

// wantItems looks at all that a space has.
func wantItems(t *testing.T, s *space.Space, want []api.Item, last, mark int) {
	t.Helper()
	if got := s.Items(); !slices.EqualFunc(got, want, sameItem) {
		t.Errorf("Items: %v, want %v", got, want)
	}
	if s.Last() != last || s.Mark() != mark {
		t.Errorf("Last %d, Mark %d, want %d, %d", s.Last(), s.Mark(), last, mark)
	}
}

// wantNoLoad looks at a Load that is to be refused.
func wantNoLoad(t *testing.T, name string, l []api.Item, last, mark int) {
	t.Helper()
	if s, err := space.Load(l, last, mark); s != nil || err != api.ErrFormat {
		t.Errorf("%s: Load(%v, %d, %d) = %v, %d, want none, %d", name, l, last, mark, s, err, api.ErrFormat)
	}
}

// wantApply looks at an Apply.
func wantApply(t *testing.T, name string, s *space.Space, time int, l []api.Change, want api.Errno) {
	t.Helper()
	if err := s.Apply(time, l); err != want {
		t.Errorf("%s: Apply(%d, %v): Err %d, want %d", name, time, l, err, want)
	}
}

// wantGet looks at a Get.
func wantGet(t *testing.T, s *space.Space, key string, time int, want string, e api.Errno) {
	t.Helper()
	if val, err := s.Get(key, time); val != want || err != e {
		t.Errorf("Get(%q, %d) = %q, %d, want %q, %d", key, time, val, err, want, e)
	}
}

// wantScan looks at a Scan that is to tell something.
func wantScan(t *testing.T, s *space.Space, from, to string, time, most int, want []api.Pair) {
	t.Helper()
	if got, err := s.Scan(from, to, time, most); !slices.Equal(got, want) || err != api.OK {
		t.Errorf("Scan(%q, %q, %d, %d) = %v, %d, want %v, 0", from, to, time, most, got, err, want)
	}
}

// wantNoScan looks at a Scan that is to be refused.
func wantNoScan(t *testing.T, s *space.Space, from, to string, time, most int, want api.Errno) {
	t.Helper()
	if got, err := s.Scan(from, to, time, most); len(got) != 0 || err != want {
		t.Errorf("Scan(%q, %q, %d, %d) = %v, %d, want none, %d", from, to, time, most, got, err, want)
	}
}

// wantSince looks at a Since.
func wantSince(t *testing.T, s *space.Space, from, to string, time int, want bool) {
	t.Helper()
	if got := s.Since(from, to, time); got != want {
		t.Errorf("Since(%q, %q, %d) = %t, want %t", from, to, time, got, want)
	}
}

// wantVacuum looks at a Vacuum.
func wantVacuum(t *testing.T, s *space.Space, mark int, want api.Errno) {
	t.Helper()
	if err := s.Vacuum(mark); err != want {
		t.Errorf("Vacuum(%d): Err %d, want %d", mark, err, want)
	}
}

// example tells a space of three keys, one of which is gone for a while.
func example(t *testing.T) *space.Space {
	t.Helper()
	s := space.New()
	apply(t, s, 2, puts("a", "1"), puts("c", "3"))
	apply(t, s, 5, puts("b", "2"), drops("a"))
	apply(t, s, 8, puts("a", "4"))
	return s
}

// exampleItems are what example has.
func exampleItems() []api.Item {
	return items(item("a", has(8, "4"), gone(5), has(2, "1")), item("b", has(5, "2")), item("c", has(2, "3")))
}

func TestP14Example(t *testing.T) {
	s := space.New()
	apply(t, s, 1, puts("a", "x"), puts("b", "y"))
	apply(t, s, 3, drops("a"))
	wantGet(t, s, "a", 2, "x", api.OK)
	wantGet(t, s, "a", 3, "", api.ErrNone)
	wantScan(t, s, "", "", 3, -1, pairs("b", "y"))
	wantSince(t, s, "a", "b", 1, true)
	wantVacuum(t, s, 3, api.OK)
	wantGet(t, s, "a", 2, "", api.ErrOld)
	wantItems(t, s, items(item("b", has(1, "y"))), 3, 3)
}

// Each call of no space, or of one that nothing made, does nothing.
func TestP14Nil(t *testing.T) {
	for _, s := range []*space.Space{nil, {}} {
		for _, time := range append([]int{0, 1, 2}, far...) {
			wantApply(t, "no space", s, time, changes(puts("a", "1")), api.ErrNil)
			wantApply(t, "no space", s, time, nil, api.ErrNil)
			wantApply(t, "no space", s, time, changes(puts(long(129), "1")), api.ErrNil)
			wantGet(t, s, "a", time, "", api.ErrNil)
			wantNoScan(t, s, "", "", time, -1, api.ErrNil)
			wantSince(t, s, "", "", time, false)
			wantVacuum(t, s, time, api.ErrNil)
		}
		wantItems(t, s, nil, 0, 0)
		if c := s.Copy(); c != nil {
			t.Errorf("Copy of no space: %v, want none", c)
		}
	}
}

func TestP14_1New(t *testing.T) {
	s := space.New()
	wantItems(t, s, nil, 0, 0)
	wantGet(t, s, "", 0, "", api.ErrNone)
	wantGet(t, s, "a", 0, "", api.ErrNone)
	wantGet(t, s, "a", 1, "", api.ErrFuture)
	wantScan(t, s, "", "", 0, -1, nil)
	wantSince(t, s, "", "", math.MinInt, false)
	wantVacuum(t, s, 0, api.OK)
	wantVacuum(t, s, 1, api.ErrArg)
	apply(t, s, 1, puts("a", "1"))
	wantItems(t, space.New(), nil, 0, 0)
}

func TestP14_1Load(t *testing.T) {
	for _, x := range []struct {
		l          []api.Item
		last, mark int
	}{
		{nil, 0, 0},
		{items(), 0, 0},
		{nil, 5, 5},
		{nil, 1 << 60, 0},
		{nil, 1 << 60, 1 << 60},
		{exampleItems(), 8, 0},
		{exampleItems(), 8, 8},
		{exampleItems(), 9, 3},
		{exampleItems(), 1 << 60, 1 << 60},
		{items(item("", has(1, ""))), 1, 1},
		{items(item("", gone(1)), item("\x00", gone(1))), 1, 0},
		{items(item(long(128), has(1<<60, long(200)), has(1, ""))), 1 << 60, 0},
		{items(item("a", has(1, "")), item("a\x00", gone(1)), item("b", has(1, "")), item("\xff", has(1, ""))), 1, 0},
		{items(item(long(127), has(1, "a")), item(long(128), has(1, "b"))), 2, 1},
	} {
		s := load(t, x.l, x.last, x.mark)
		wantItems(t, s, x.l, x.last, x.mark)
		want := api.OK
		if x.last == api.MaxTime {
			want = api.ErrTime
		}
		wantApply(t, "behind Load", s, x.last+1, nil, want)
	}
}

// wrongItems are items that no space has, of which each version's time is at most 9 where they are chains.
func wrongItems() map[string][]api.Item {
	a, b := item("a", has(1, "1")), item("b", has(1, "2"))
	return map[string][]api.Item{
		"a key twice":                  items(a, a),
		"a key twice, other versions":  items(a, item("a", has(2, "3"))),
		"keys fall":                    items(b, a),
		"the last keys fall":           items(item("", has(1, "0")), b, a),
		"the last key twice":           items(a, b, b),
		"the first key again":          items(a, b, a),
		"the empty key behind":         items(a, item("", has(1, "0"))),
		"a longer key ahead":           items(item("aa", has(1, "0")), a),
		"keys of high bytes fall":      items(item("\xff", has(1, "0")), item("\x7f", has(1, "0"))),
		"key too long":                 items(item(long(129), has(1, "1"))),
		"key much too long":            items(a, item(long(5000), has(1, "1"))),
		"no versions":                  items(item("a")),
		"no fields":                    items(api.Item{}),
		"no versions behind others":    items(a, item("b")),
		"no versions ahead of others":  items(item("a"), b),
		"empty versions":               items(api.Item{Key: "a", Versions: []api.Version{}}),
		"time 0":                       items(item("a", has(0, "1"))),
		"time -1":                      items(a, item("b", has(-1, "1"))),
		"times rise":                   items(item("a", has(1, "1"), has(2, "1"))),
		"a time twice":                 items(item("a", has(2, "1"), gone(2))),
		"gone with a value":            items(item("a", api.Version{Time: 1, Val: "1", Del: true})),
		"value too long":               items(item("a", has(1, long(201)))),
		"value too long behind others": items(a, item("b", has(3, ""), has(1, long(201)))),
	}
}

func TestP14_1LoadRefused(t *testing.T) {
	for name, l := range wrongItems() {
		wantNoLoad(t, name, l, 9, 0)
		wantNoLoad(t, name, l, 9, 9)
		wantNoLoad(t, name, l, 1<<60, 1)
	}
	l := exampleItems()
	for last := range 8 {
		wantNoLoad(t, "a time above last", l, last, 0)
	}
	wantNoLoad(t, "only the last key's time above last", items(item("a", has(3, "1")), item("b", has(4, "1"))), 3, 3)
	wantNoLoad(t, "only the first key's time above last", items(item("a", gone(4)), item("b", has(3, "1"))), 3, 3)
	wantNoLoad(t, "a time above MaxTime", items(item("a", has(1<<60+1, "1"))), 1<<60, 0)
	for _, l := range [][]api.Item{nil, l} {
		for _, last := range []int{math.MinInt, -1 << 60, -1, 1<<60 + 1, math.MaxInt} {
			for _, mark := range []int{math.MinInt, -1, 0, last, 1 << 60, math.MaxInt} {
				wantNoLoad(t, "last", l, last, mark)
			}
		}
		for _, mark := range []int{math.MinInt, -1 << 60, -1, 9, 10, 1 << 60, math.MaxInt} {
			wantNoLoad(t, "mark", l, 8, mark)
		}
		wantNoLoad(t, "mark above MaxTime", l, 1<<60, 1<<60+1)
	}
}

func TestP14_2Apply(t *testing.T) {
	s := example(t)
	wantItems(t, s, exampleItems(), 8, 0)
	apply(t, s, 9)
	wantItems(t, s, exampleItems(), 9, 0)
	wantApply(t, "an empty list", s, 12, changes(), api.OK)
	wantItems(t, s, exampleItems(), 12, 0)
	apply(t, s, 13, drops("n"), puts("", ""), drops("c"), puts("c\x00", "5"))
	wantItems(t, s, items(item("", has(13, "")), exampleItems()[0], item("b", has(5, "2")), item("c", gone(13), has(2, "3")), item("c\x00", has(13, "5")), item("n", gone(13))), 13, 0)
	wantGet(t, s, "n", 13, "", api.ErrNone)
	// What is gone may be so again, and a value come once more.
	apply(t, s, 14, drops("n"), puts("c\x00", "5"))
	wantItems(t, s, items(item("", has(13, "")), exampleItems()[0], item("b", has(5, "2")), item("c", gone(13), has(2, "3")), item("c\x00", has(14, "5"), has(13, "5")), item("n", gone(14), gone(13))), 14, 0)
}

func TestP14_2ApplyEdges(t *testing.T) {
	s := space.New()
	apply(t, s, 1, puts(long(128), long(200)), puts(long(127), long(199)), drops("\xff"+long(127)))
	want := items(item(long(127), has(1, long(199))), item(long(128), has(1, long(200))), item("\xff"+long(127), gone(1)))
	wantItems(t, s, want, 1, 0)
	apply(t, s, 1<<60-1)
	apply(t, s, 1<<60, drops(long(127)))
	want[0].Versions = []api.Version{gone(1 << 60), has(1, long(199))}
	wantItems(t, s, want, 1<<60, 0)
	for _, time := range append([]int{0, 1, 2, 1<<60 - 1}, far...) {
		wantApply(t, "behind MaxTime", s, time, changes(puts("a", "1")), api.ErrTime)
	}
	wantItems(t, s, want, 1<<60, 0)
	many, all := changes(), items()
	for i := range 1000 {
		key := string([]byte{byte(i / 100), byte(i % 100)})
		all = append(all, item(key, has(3, long(i%201))))
		many = append(many, puts(key, long(i%201)))
	}
	slices.Reverse(many)
	s = space.New()
	apply(t, s, 3, many...)
	wantItems(t, s, all, 3, 0)
}

// wrongChanges are changes that can't be applied.
func wrongChanges() map[string][]api.Change {
	m := map[string][]api.Change{}
	for name, c := range map[string]api.Change{
		"key too long":               puts(long(129), "1"),
		"key much too long":          puts(long(5000), ""),
		"gone key too long":          drops(long(129)),
		"value too long":             puts("k", long(201)),
		"value much too long":        puts("k", long(5000)),
		"gone with a value":          {Key: "k", Val: "1", Del: true},
		"gone with a nought":         {Key: "k", Val: "\x00", Del: true},
		"gone with a value too long": {Key: "k", Val: long(201), Del: true},
		"twice":                      puts("a", "1"),
		"twice, once gone":           drops("a"),
	} {
		m[name+", behind"] = changes(puts("a", "1"), puts("z", "2"), c)
		m[name+", ahead"] = changes(c, puts("z", "2"), puts("a", "1"))
		m[name+", between"] = changes(puts("a", "2"), c, drops("z"))
	}
	m["alone, key too long"] = changes(puts(long(129), ""))
	m["alone, value too long"] = changes(puts("", long(201)))
	m["alone, gone with a value"] = changes(api.Change{Val: "1", Del: true})
	m["the empty key twice"] = changes(puts("", ""), puts("", ""))
	m["gone twice"] = changes(drops("b"), drops("b"))
	m["twice, far from one another"] = changes(puts("a", "1"), drops("b"), puts("c", "2"), puts("d", ""), drops("e"), puts("a", "2"))
	return m
}

// ErrTime is answered ahead of ErrArg, and what is refused changes nothing.
func TestP14_2ApplyRefused(t *testing.T) {
	s := example(t)
	for _, time := range append([]int{0, 1, 2, 5, 7, 8}, far...) {
		if time == 1<<60 {
			continue
		}
		wantApply(t, "time", s, time, nil, api.ErrTime)
		wantApply(t, "time", s, time, changes(puts("a", "9"), drops("b")), api.ErrTime)
		for name, l := range wrongChanges() {
			wantApply(t, name, s, time, l, api.ErrTime)
		}
	}
	for name, l := range wrongChanges() {
		for _, time := range []int{9, 100, 1 << 60} {
			wantApply(t, name, s, time, l, api.ErrArg)
		}
	}
	wantItems(t, s, exampleItems(), 8, 0)
	wantGet(t, s, "a", 9, "", api.ErrFuture)
	apply(t, s, 9, drops("a"))
	wantGet(t, s, "a", 9, "", api.ErrNone)
}

func TestP14_3Get(t *testing.T) {
	s := example(t)
	for time, want := range map[int]string{2: "1", 3: "1", 4: "1", 8: "4"} {
		wantGet(t, s, "a", time, want, api.OK)
	}
	for _, time := range []int{0, 1, 5, 6, 7} {
		wantGet(t, s, "a", time, "", api.ErrNone)
	}
	for time := range 9 {
		for _, key := range []string{"", "A", "aa", "a\x00", "d", long(128), long(129), long(5000)} {
			wantGet(t, s, key, time, "", api.ErrNone)
		}
	}
	wantGet(t, s, "b", 4, "", api.ErrNone)
	wantGet(t, s, "b", 5, "2", api.OK)
	wantGet(t, s, "c", 8, "3", api.OK)
	apply(t, s, 9, puts("a", ""), puts("", "9"))
	wantGet(t, s, "a", 9, "", api.OK)
	wantGet(t, s, "", 9, "9", api.OK)
	wantGet(t, s, "", 8, "", api.ErrNone)
}

// Neither at times below the mark, nor above the last one, anything is told, whatever is asked for.
func TestP14_3Times(t *testing.T) {
	look := func(s *space.Space) {
		t.Helper()
		for _, time := range append([]int{0, 1, 2, 3, 4, 5, 6, 7, 8, 9, 10}, far...) {
			want := api.OK
			if time < s.Mark() {
				want = api.ErrOld
			} else if time > s.Last() {
				want = api.ErrFuture
			}
			for _, key := range []string{"", "a", "c", "n", long(129)} {
				if val, err := s.Get(key, time); want != api.OK && (val != "" || err != want) || want == api.OK && err != api.OK && err != api.ErrNone {
					t.Errorf("Get(%q, %d) of mark %d, last %d = %q, %d, want Err %d", key, time, s.Mark(), s.Last(), val, err, want)
				}
				for _, most := range []int{-1, 0, 1} {
					if l, err := s.Scan(key, "", time, most); err != want || err != api.OK && len(l) != 0 {
						t.Errorf("Scan(%q, all, %d, %d) of mark %d, last %d = %v, %d, want Err %d", key, time, most, s.Mark(), s.Last(), l, err, want)
					}
				}
			}
		}
	}
	s := example(t)
	look(s)
	for _, mark := range []int{0, 1, 3, 5, 8} {
		wantVacuum(t, s, mark, api.OK)
		look(s)
	}
	look(load(t, exampleItems(), 10, 4))
	look(load(t, exampleItems(), 1<<60, 1<<60))
	look(space.New())
}

func TestP14_3Scan(t *testing.T) {
	s := example(t)
	for time, want := range map[int][]api.Pair{0: nil, 1: nil, 2: pairs("a", "1", "c", "3"), 4: pairs("a", "1", "c", "3"), 5: pairs("b", "2", "c", "3"), 7: pairs("b", "2", "c", "3"), 8: pairs("a", "4", "b", "2", "c", "3")} {
		wantScan(t, s, "", "", time, -1, want)
		wantScan(t, s, "", "", time, math.MinInt, want)
		wantScan(t, s, "", "", time, math.MaxInt, want)
		wantScan(t, s, "", "", time, 0, nil)
		wantScan(t, s, "", "", time, 1, want[:min(1, len(want))])
		wantScan(t, s, "", "", time, 2, want[:min(2, len(want))])
		wantScan(t, s, "", "", time, 3, want)
		wantScan(t, s, "", "", time, 4, want)
	}
	wantScan(t, s, "a", "c", 8, -1, pairs("a", "4", "b", "2"))
	wantScan(t, s, "a", "c", 8, 1, pairs("a", "4"))
	wantScan(t, s, "a", "c", 5, 1, pairs("b", "2"))
	wantScan(t, s, "a", "c\x00", 8, -1, pairs("a", "4", "b", "2", "c", "3"))
	wantScan(t, s, "a\x00", "", 8, -1, pairs("b", "2", "c", "3"))
	wantScan(t, s, "b", "b\x00", 8, -1, pairs("b", "2"))
	wantScan(t, s, "", "a", 8, -1, nil)
	wantScan(t, s, "", "\x00", 8, -1, nil)
	wantScan(t, s, "b", "b", 8, -1, nil)
	wantScan(t, s, "c", "a", 8, -1, nil)
	wantScan(t, s, "c", "", 8, -1, pairs("c", "3"))
	wantScan(t, s, "c\x00", "", 8, -1, nil)
	wantScan(t, s, long(5000), "", 8, -1, nil)
	wantScan(t, s, "", long(5000), 8, -1, pairs("a", "4", "b", "2", "c", "3"))
	apply(t, s, 9, puts("", ""), puts("\xff", "5"))
	wantScan(t, s, "", "", 9, 1, pairs("", ""))
	wantScan(t, s, "", "\x00", 9, -1, pairs("", ""))
	wantScan(t, s, "\x00", "b", 9, -1, pairs("a", "4"))
	wantScan(t, s, "d", "", 9, -1, pairs("\xff", "5"))
	wantScan(t, s, "d", "\xff", 9, -1, nil)
}

func TestP14_4Since(t *testing.T) {
	s := example(t)
	for key, last := range map[string]int{"a": 8, "b": 5, "c": 2} {
		for _, time := range []int{math.MinInt, -1, 0, 1, 2, 3, 4, 5, 6, 7, 8, 9, 1 << 60, math.MaxInt} {
			wantSince(t, s, key, key+"\x00", time, time < last)
		}
	}
	for _, time := range []int{math.MinInt, 0, 7} {
		wantSince(t, s, "", "", time, true)
		wantSince(t, s, "", "b", time, true)
		wantSince(t, s, "a", "", time, true)
	}
	for _, time := range []int{8, 9, math.MaxInt} {
		wantSince(t, s, "", "", time, false)
	}
	wantSince(t, s, "b", "", 5, false)
	wantSince(t, s, "b", "", 4, true)
	wantSince(t, s, "b\x00", "", 2, false)
	wantSince(t, s, "b\x00", "", 1, true)
	wantSince(t, s, "", "a", math.MinInt, false)
	wantSince(t, s, "b", "b", math.MinInt, false)
	wantSince(t, s, "b", "a", math.MinInt, false)
	wantSince(t, s, "d", "", math.MinInt, false)
	// A version by which a key is gone counts as any other; and Since is asked at times that are kept no more as well.
	apply(t, s, 9, drops("x"))
	wantSince(t, s, "d", "", 8, true)
	wantSince(t, s, "d", "", 9, false)
	wantVacuum(t, s, 8, api.OK)
	wantSince(t, s, "a", "b", 5, true)
	wantSince(t, s, "a", "b", 0, true)
	wantVacuum(t, s, 9, api.OK)
	wantSince(t, s, "d", "", 0, false)
}

func TestP14_5Vacuum(t *testing.T) {
	for mark, want := range map[int][]api.Item{
		0: exampleItems(),
		1: exampleItems(),
		2: exampleItems(),
		4: exampleItems(),
		5: items(item("a", has(8, "4")), item("b", has(5, "2")), item("c", has(2, "3"))),
		7: items(item("a", has(8, "4")), item("b", has(5, "2")), item("c", has(2, "3"))),
		8: items(item("a", has(8, "4")), item("b", has(5, "2")), item("c", has(2, "3"))),
	} {
		s := example(t)
		wantVacuum(t, s, mark, api.OK)
		wantItems(t, s, want, 8, mark)
		wantVacuum(t, s, mark, api.OK)
		wantItems(t, s, want, 8, mark)
	}
	s := example(t)
	apply(t, s, 9, drops("a"), drops("b"), drops("c"))
	wantVacuum(t, s, 8, api.OK)
	wantItems(t, s, items(item("a", gone(9), has(8, "4")), item("b", gone(9), has(5, "2")), item("c", gone(9), has(2, "3"))), 9, 8)
	wantVacuum(t, s, 9, api.OK)
	wantItems(t, s, nil, 9, 9)
	wantGet(t, s, "a", 9, "", api.ErrNone)
	wantScan(t, s, "", "", 9, -1, nil)
	wantSince(t, s, "", "", 0, false)
	apply(t, s, 10, puts("b", "5"))
	wantItems(t, s, items(item("b", has(10, "5"))), 10, 9)
	// What a space was loaded with that its own mark does not need goes by that mark, too.
	s = load(t, items(item("a", has(8, "4"), gone(5), has(2, "1")), item("b", gone(3))), 8, 5)
	wantVacuum(t, s, 5, api.OK)
	wantItems(t, s, items(item("a", has(8, "4"))), 8, 5)
}

func TestP14_5VacuumRefused(t *testing.T) {
	s := load(t, exampleItems(), 8, 4)
	for _, mark := range append([]int{0, 1, 3, 9, 10}, far...) {
		wantVacuum(t, s, mark, api.ErrArg)
	}
	wantItems(t, s, exampleItems(), 8, 4)
	wantVacuum(t, s, 8, api.OK)
	for _, mark := range append([]int{0, 4, 7, 9}, far...) {
		wantVacuum(t, s, mark, api.ErrArg)
	}
	apply(t, s, 9)
	wantVacuum(t, s, 9, api.OK)
}

func TestP14_6Copy(t *testing.T) {
	s := load(t, exampleItems(), 9, 3)
	c := s.Copy()
	wantItems(t, c, exampleItems(), 9, 3)
	apply(t, c, 10, puts("a", "5"), puts("n", "6"), drops("b"))
	wantItems(t, s, exampleItems(), 9, 3)
	wantVacuum(t, s, 9, api.OK)
	wantItems(t, s, items(item("a", has(8, "4")), item("b", has(5, "2")), item("c", has(2, "3"))), 9, 9)
	want := items(item("a", has(10, "5"), has(8, "4"), gone(5), has(2, "1")), item("b", gone(10), has(5, "2")), item("c", has(2, "3")), item("n", has(10, "6")))
	wantItems(t, c, want, 10, 3)
	wantVacuum(t, c, 10, api.OK)
	wantItems(t, c, items(item("a", has(10, "5")), item("c", has(2, "3")), item("n", has(10, "6"))), 10, 10)
	wantItems(t, s, items(item("a", has(8, "4")), item("b", has(5, "2")), item("c", has(2, "3"))), 9, 9)
	wantItems(t, space.New().Copy(), nil, 0, 0)
}

// Two copies that go on by themselves from one space on do not meet, neither where their keys stand nor in their chains.
func TestP14_6CopyApart(t *testing.T) {
	s := space.New()
	for time := 1; time <= 20; time++ {
		apply(t, s, time, puts("k", long(time)), puts("k"+long(time), "1"))
		was := s.Items()
		a, b := s.Copy(), s.Copy()
		apply(t, a, 30, puts("a", "a"), puts("z", "a"), drops("k"))
		apply(t, b, 40, drops("a"), puts("y", "b"), puts("k", "b"))
		wantItems(t, s, was, time, 0)
		wantGet(t, a, "k", 30, "", api.ErrNone)
		wantGet(t, b, "k", 40, "b", api.OK)
		wantScan(t, a, "y", "", 30, -1, pairs("z", "a"))
		wantScan(t, b, "y", "", 40, -1, pairs("y", "b"))
		wantVacuum(t, a, 30, api.OK)
		wantVacuum(t, b, 40, api.OK)
		wantItems(t, s, was, time, 0)
	}
}
