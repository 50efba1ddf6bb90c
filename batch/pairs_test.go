package batch_test

import (
	"maps"
	"math"
	"slices"
	"testing"

	"ambry/api"
	"ambry/batch"
)

// has tells a version with a value.
func has(time int, val string) api.Version {
	return api.Version{Time: time, Val: val}
}

// gone tells a version without one.
func gone(time int) api.Version {
	return api.Version{Time: time, Del: true}
}

// item tells a key with its versions.
func item(key string, l ...api.Version) api.Item {
	return api.Item{Key: key, Versions: l}
}

// items tells a list of items.
func items(l ...api.Item) []api.Item {
	return l
}

// pairs tells the pairs of keys and values that stand in turn.
func pairs(l ...string) []api.Pair {
	var out []api.Pair
	for i := 0; i < len(l); i += 2 {
		out = append(out, api.Pair{Key: l[i], Val: l[i+1]})
	}
	return out
}

// plainPairs tells the pairs of right items as the chapter's words have it.
func plainPairs(l []api.Item) []api.Pair {
	vals := map[string]string{}
	for _, item := range l {
		for _, v := range item.Versions {
			val := "\x01" + v.Val
			if v.Del {
				val = "\x00"
			}
			vals[item.Key+word(1<<60-v.Time)] = val
		}
	}
	return rowOf(vals)
}

// rowOf tells a row of pairs of a map.
func rowOf(m map[string]string) []api.Pair {
	var l []api.Pair
	for _, k := range slices.Sorted(maps.Keys(m)) {
		l = append(l, api.Pair{Key: k, Val: m[k]})
	}
	return l
}

// mapOf tells a map of a row of pairs.
func mapOf(l []api.Pair) map[string]string {
	m := map[string]string{}
	for _, p := range l {
		m[p.Key] = p.Val
	}
	return m
}

// sameItem tells whether two items are alike.
func sameItem(a, b api.Item) bool {
	return a.Key == b.Key && slices.Equal(a.Versions, b.Versions)
}

// wantPairs looks at items that are to be taken, and at those that their pairs are.
func wantPairs(t *testing.T, name string, l []api.Item, want []api.Pair) {
	t.Helper()
	if got, err := batch.Pairs(l); !slices.Equal(got, want) || err != api.OK {
		t.Errorf("%s: Pairs(%v) = %q, %d, want %q, 0", name, l, got, err, want)
	}
	wantItems(t, name, want, l)
}

// wantNoPairs looks at items that are to be refused.
func wantNoPairs(t *testing.T, name string, l []api.Item) {
	t.Helper()
	if got, err := batch.Pairs(l); len(got) != 0 || err != api.ErrArg {
		t.Errorf("%s: Pairs(%v) = %q, %d, want none, %d", name, l, got, err, api.ErrArg)
	}
}

// wantItems looks at pairs that are items'.
func wantItems(t *testing.T, name string, l []api.Pair, want []api.Item) {
	t.Helper()
	if got, err := batch.Items(l); !slices.EqualFunc(got, want, sameItem) || err != api.OK {
		t.Errorf("%s: Items(%q) = %v, %d, want %v, 0", name, l, got, err, want)
	}
}

// wantNoItems looks at pairs that are no items'.
func wantNoItems(t *testing.T, name string, l []api.Pair) {
	t.Helper()
	if got, err := batch.Items(l); len(got) != 0 || err != api.ErrFormat {
		t.Errorf("%s: Items(%q) = %v, %d, want none, %d", name, l, got, err, api.ErrFormat)
	}
}

// wantDiffer looks at a Differ.
func wantDiffer(t *testing.T, name string, a, b []api.Pair, want []api.Change) {
	t.Helper()
	if got := batch.Differ(a, b); !slices.Equal(got, want) {
		t.Errorf("%s: Differ(%q, %q) = %v, want %v", name, a, b, got, want)
	}
}

func TestP15_3Pairs(t *testing.T) {
	wantPairs(t, "none", nil, nil)
	wantPairs(t, "one", items(item("a", has(5, "x"))), pairs("a\x0f\xff\xff\xff\xff\xff\xff\xfb", "\x01x"))
	wantPairs(t, "several", items(item("a", gone(7), has(5, "x"), has(2, "")), item("b", has(2, "y"))), pairs(
		"a\x0f\xff\xff\xff\xff\xff\xff\xf9", "\x00",
		"a\x0f\xff\xff\xff\xff\xff\xff\xfb", "\x01x",
		"a\x0f\xff\xff\xff\xff\xff\xff\xfe", "\x01",
		"b\x0f\xff\xff\xff\xff\xff\xff\xfe", "\x01y"))
	wantPairs(t, "the least and the greatest time", items(item("", has(1<<60, "\x00"), gone(1))), pairs(
		"\x00\x00\x00\x00\x00\x00\x00\x00", "\x01\x00",
		"\x0f\xff\xff\xff\xff\xff\xff\xff", "\x00"))
	edge := items(item(long(120), gone(1<<60), has(1<<60-1, long(199))))
	wantPairs(t, "the longest", edge, pairs(long(120)+word(0), "\x00", long(120)+word(1), "\x01"+long(199)))
}

// The pairs of a key may stand between those of another one that it begins with, or that begins with it.
func TestP15_3PairsBetween(t *testing.T) {
	first, last := word(0), word(1<<60-1)
	wantPairs(t, "behind", items(item("a", has(1, "1")), item("a\x00", has(1, "2"))), pairs("a\x00"+last, "\x012", "a"+last, "\x011"))
	wantPairs(t, "between", items(item("a", has(1<<60, "1"), has(1, "2")), item("a\x05", has(3, "3"))), pairs("a"+first, "\x011", "a\x05"+word(1<<60-3), "\x013", "a"+last, "\x012"))
	wantPairs(t, "within a pair's key", items(item("", has(1<<60, "1"), has(1, "2")), item(first, has(1<<60, "3"), gone(1)), item(last, has(2, "4"))),
		pairs(first, "\x011", first+first, "\x013", first+last, "\x00", last, "\x012", last+word(1<<60-2), "\x014"))
	l := items(item("", has(9, "")), item("\x00", gone(9)), item("\x0f", has(9, "1"), has(8, "2")), item("\x0f\xff", has(7, "3")), item("\x10", has(6, "4")), item("\xff", gone(1)))
	wantPairs(t, "several", l, plainPairs(l))
}

func TestP15_3PairsWrong(t *testing.T) {
	right := has(5, "x")
	for name, l := range map[string][]api.Item{
		"a key twice":                   items(item("a", right), item("a", right)),
		"no key twice":                  items(item("", right), item("", right)),
		"a key twice, other versions":   items(item("a", has(7, "x")), item("a", has(5, "x"))),
		"keys fall":                     items(item("b", right), item("a", right)),
		"keys fall behind others":       items(item("a", right), item("c", right), item("b", right)),
		"a key again":                   items(item("a", right), item("b", right), item("a", right)),
		"no key behind one":             items(item("a", right), item("", right)),
		"pairs' keys rise, items' fall": items(item("a\x00", right), item("a", right)),
	} {
		wantNoPairs(t, name, l)
	}
	for name, wrong := range map[string]api.Item{
		"key too long":         item("k"+long(120), right),
		"key of MaxKey":        item("k"+long(127), right),
		"no versions":          item("k"),
		"no versions at all":   {Key: "k", Versions: []api.Version{}},
		"time 0":               item("k", has(0, "x")),
		"time -1":              item("k", gone(-1)),
		"the least time":       item("k", has(math.MinInt, "x")),
		"MaxTime and 1":        item("k", has(1<<60+1, "x")),
		"the greatest time":    item("k", gone(math.MaxInt)),
		"a time twice":         item("k", right, right),
		"times rise":           item("k", has(4, "x"), right),
		"a wrong last one":     item("k", right, has(4, ""), has(0, "")),
		"gone with a value":    item("k", api.Version{Time: 5, Val: "x", Del: true}),
		"value too long":       item("k", has(5, long(200))),
		"the last too long":    item("k", has(5, "x"), gone(4), has(3, long(200))),
		"value too long twice": item("k", has(5, long(201))),
	} {
		wantNoPairs(t, name, items(wrong))
		wantNoPairs(t, name+", ahead of others", items(wrong, item("l", right)))
		wantNoPairs(t, name+", behind others", items(item("a", right), item("b", right), wrong))
		wantNoPairs(t, name+", between others", items(item("a", right), wrong, item("l", right)))
	}
}

func TestP15_3ItemsWrong(t *testing.T) {
	end := word(1<<60 - 5)
	for name, p := range map[string][]api.Pair{
		"nothing":                   pairs("", ""),
		"a key without a time":      pairs("k", "\x01"),
		"seven bytes":               pairs(end[1:], "\x01"),
		"key too long":              pairs("k"+long(120)+end, "\x01"),
		"key much too long":         pairs("k"+long(500)+end, "\x00"),
		"time 0":                    pairs("k"+word(1<<60), "\x01"),
		"time 0, gone":              pairs("k"+word(1<<60), "\x00"),
		"time -1":                   pairs("k"+word(1<<60+1), "\x01"),
		"MaxTime and 1":             pairs("k"+word(-1), "\x01"),
		"a high bit more":           pairs("k\x8f"+end[1:], "\x01"),
		"a bit more":                pairs("k\x1f"+end[1:], "\x00"),
		"the least of numbers":      pairs("k"+word(math.MinInt), "\x01"),
		"the greatest of numbers":   pairs("k"+word(math.MaxInt), "\x01"),
		"as great as the last time": pairs("k"+word(1<<60-math.MaxInt), "\x01"),
		"no value":                  pairs("k"+end, ""),
		"gone, and a value":         pairs("k"+end, "\x00x"),
		"gone, and a nought":        pairs("k"+end, "\x00\x00"),
		"gone, and one":             pairs("k"+end, "\x00\x01"),
		"a value of another kind":   pairs("k"+end, "\x02x"),
		"another kind alone":        pairs("k"+end, "\x02"),
		"a value alone":             pairs("k"+end, "x"),
		"the kind 255":              pairs("k"+end, "\xff"),
		"value too long":            pairs("k"+end, "\x01"+long(200)),
		"value much too long":       pairs("k"+end, "\x01"+long(5000)),
		"twice":                     pairs("k"+end, "\x01", "k"+end, "\x01"),
		"twice, other values":       pairs("k"+end, "\x01x", "k"+end, "\x00"),
		"times rise":                pairs("k"+end, "\x01", "k"+word(1<<60-6), "\x01"),
		"keys fall":                 pairs("l"+end, "\x01", "k"+end, "\x01"),
		"as the items stand":        pairs("k"+end, "\x01", "k\x00"+end, "\x01"),
	} {
		ahead, behind := pairs("a"+end, "\x01x", "b"+end, "\x00"), pairs("z"+end, "\x01x")
		wantNoItems(t, name, p)
		wantNoItems(t, name+", ahead of others", slices.Concat(p, behind))
		wantNoItems(t, name+", behind others", slices.Concat(ahead, p))
		wantNoItems(t, name+", between others", slices.Concat(ahead, p, behind))
	}
	wantItems(t, "none", nil, nil)
	wantItems(t, "none", []api.Pair{}, nil)
}

// Whatever pairs stand together, in whichever order: they are items', if each is a version's, and their keys rise.
func TestP15_3ItemsOfEachList(t *testing.T) {
	first, last := word(0), word(1<<60-1)
	ps := pairs(first, "\x01x", last, "\x00", "\x05"+last, "\x01", "\x0f"+first, "\x01y", "\x0f"+last, "\x00", "a"+first, "\x00", "a"+last, "\x01",
		// No version's: the time is none, or the value.
		"b"+word(1<<60), "\x01", "b"+first, "\x02")
	versions := items(item("", has(1<<60, "x")), item("", gone(1)), item("\x05", has(1, "")), item("\x0f", has(1<<60, "y")), item("\x0f", gone(1)), item("a", gone(1<<60)), item("a", has(1, "")))
	var look func(left int, at []int)
	look = func(left int, at []int) {
		var l []api.Pair
		chains := map[string][]api.Version{}
		fits := true
		for i, which := range at {
			l = append(l, ps[which])
			fits = fits && which < len(versions) && (i == 0 || l[i-1].Key < l[i].Key)
			if fits {
				chains[versions[which].Key] = append(chains[versions[which].Key], versions[which].Versions[0])
			}
		}
		if fits {
			var want []api.Item
			for _, k := range slices.Sorted(maps.Keys(chains)) {
				want = append(want, item(k, chains[k]...))
			}
			wantItems(t, "each list", l, want)
		} else {
			wantNoItems(t, "each list", l)
		}
		for which := range ps {
			if left > 0 {
				look(left-1, append(slices.Clone(at), which))
			}
		}
	}
	look(5, nil)
}

func TestP15_4Differ(t *testing.T) {
	a := pairs("a", "1", "b", "2", "d", "")
	wantDiffer(t, "alike", a, a, nil)
	wantDiffer(t, "none of either", nil, nil, nil)
	wantDiffer(t, "all new", nil, a, []api.Change{puts("a", "1"), puts("b", "2"), puts("d", "")})
	wantDiffer(t, "all gone", a, nil, []api.Change{drops("a"), drops("b"), drops("d")})
	wantDiffer(t, "one otherwise", a, pairs("a", "1", "b", "3", "d", ""), []api.Change{puts("b", "3")})
	wantDiffer(t, "an empty value", a, pairs("a", "", "b", "2", "d", ""), []api.Change{puts("a", "")})
	wantDiffer(t, "one between", a, pairs("a", "1", "b", "2", "c", "3", "d", ""), []api.Change{puts("c", "3")})
	wantDiffer(t, "ahead, and behind", a, pairs("", "x", "a", "1", "b", "2", "d", "", "e", "y"), []api.Change{puts("", "x"), puts("e", "y")})
	wantDiffer(t, "others in turn", a, pairs("aa", "1", "bb", "2", "dd", ""), []api.Change{drops("a"), puts("aa", "1"), drops("b"), puts("bb", "2"), drops("d"), puts("dd", "")})
	wantDiffer(t, "all ahead", a, pairs("A", "1", "B", "2"), []api.Change{puts("A", "1"), puts("B", "2"), drops("a"), drops("b"), drops("d")})
	wantDiffer(t, "all behind", a, pairs("x", "1", "y", "2"), []api.Change{drops("a"), drops("b"), drops("d"), puts("x", "1"), puts("y", "2")})
	wantDiffer(t, "no key gone", pairs("", "1", "a", "1"), pairs("a", "1"), []api.Change{drops("")})
	wantDiffer(t, "bytes above letters", pairs("a", "1", "\xff", "2"), pairs("a", "1", "\x80", "2"), []api.Change{puts("\x80", "2"), drops("\xff")})
	// Rows may have any keys and values: the limits are those of their own makers.
	wantDiffer(t, "long ones", pairs(long(5000), "1"), pairs(long(5000), long(5000)), []api.Change{puts(long(5000), long(5000))})
}

// Of rows whose keys do not rise there are none, on whichever side they stand.
func TestP15_4DifferNoRows(t *testing.T) {
	rows := [][]api.Pair{nil, pairs("a", "1"), pairs("a", "1", "b", "2", "c", "3"), pairs("x", "1", "y", "2")}
	for name, l := range map[string][]api.Pair{
		"a pair twice":            pairs("a", "1", "a", "1"),
		"a key twice":             pairs("a", "1", "a", "2"),
		"no key twice":            pairs("", "1", "", "1"),
		"keys fall":               pairs("b", "1", "a", "2"),
		"the last key falls":      pairs("a", "1", "c", "2", "b", "3"),
		"the first keys fall":     pairs("b", "1", "a", "2", "c", "3"),
		"a key again":             pairs("a", "1", "b", "2", "a", "1"),
		"the last key twice":      pairs("a", "1", "b", "2", "b", "2"),
		"no key behind others":    pairs("a", "1", "b", "2", "", "3"),
		"a key within, behind it": pairs("aa", "1", "a", "2"),
	} {
		wantDiffer(t, name, l, l, nil)
		for _, row := range rows {
			wantDiffer(t, name, l, row, nil)
			wantDiffer(t, name, row, l, nil)
		}
	}
}
