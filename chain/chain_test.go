package chain_test

import (
	"math"
	"slices"
	"strings"
	"testing"

	"ambry/api"
	"ambry/chain"
)

// has tells a version with a value.
func has(time int, val string) api.Version {
	return api.Version{Time: time, Val: val}
}

// gone tells a version without one.
func gone(time int) api.Version {
	return api.Version{Time: time, Del: true}
}

// vers tells a list of versions, one behind the other.
func vers(l ...api.Version) []api.Version {
	return l
}

// example tells the chain of the chapter's example.
func example() []api.Version {
	return vers(gone(7), has(5, "b"), has(2, "a"))
}

// long tells a text of so many bytes.
func long(size int) string {
	return strings.Repeat("x", size)
}

// far are times that are no version's, or the last ones that are.
var far = []int{math.MinInt, math.MinInt + 1, -1 << 60, -1 << 32, -1, 0, 1 << 60, 1<<60 + 1, math.MaxInt - 1, math.MaxInt}

// wantCheck looks at a Check.
func wantCheck(t *testing.T, name string, l []api.Version, want api.Errno) {
	t.Helper()
	if err := chain.Check(l); err != want {
		t.Errorf("%s: Check: Err %d, want %d", name, err, want)
	}
}

// wantAt looks at an At at which there is something.
func wantAt(t *testing.T, l []api.Version, time int, want string) {
	t.Helper()
	if val, ok := chain.At(l, time); val != want || !ok {
		t.Errorf("At(%v, %d) = %q, %t, want %q", l, time, val, ok, want)
	}
}

// wantNothing looks at an At at which there is nothing.
func wantNothing(t *testing.T, l []api.Version, time int) {
	t.Helper()
	if val, ok := chain.At(l, time); val != "" || ok {
		t.Errorf("At(%v, %d) = %q, %t, want nothing", l, time, val, ok)
	}
}

// wantSince looks at a Since.
func wantSince(t *testing.T, l []api.Version, time int, want bool) {
	t.Helper()
	if got := chain.Since(l, time); got != want {
		t.Errorf("Since(%v, %d) = %t, want %t", l, time, got, want)
	}
}

// wantAdd looks at an Add that is to add.
func wantAdd(t *testing.T, l []api.Version, v api.Version, want []api.Version) {
	t.Helper()
	if got, err := chain.Add(l, v); err != api.OK || !slices.Equal(got, want) {
		t.Errorf("Add(%v, %v) = %v, %d, want %v, 0", l, v, got, err, want)
	}
}

// wantNoAdd looks at an Add that is to be refused.
func wantNoAdd(t *testing.T, name string, l []api.Version, v api.Version, want api.Errno) {
	t.Helper()
	if got, err := chain.Add(l, v); err != want || len(got) != 0 {
		t.Errorf("%s: Add(%v, %v) = %v, %d, want none, %d", name, l, v, got, err, want)
	}
}

// wantVacuum looks at a Vacuum.
func wantVacuum(t *testing.T, l []api.Version, mark int, want []api.Version) {
	t.Helper()
	if got := chain.Vacuum(l, mark); !slices.Equal(got, want) {
		t.Errorf("Vacuum(%v, %d) = %v, want %v", l, mark, got, want)
	}
}

// wantRewind looks at a Rewind.
func wantRewind(t *testing.T, l []api.Version, time int, want []api.Version) {
	t.Helper()
	if got := chain.Rewind(l, time); !slices.Equal(got, want) {
		t.Errorf("Rewind(%v, %d) = %v, want %v", l, time, got, want)
	}
}

// wrong are versions that are not right.
func wrong() map[string]api.Version {
	return map[string]api.Version{
		"time 0":                        has(0, "a"),
		"no fields":                     {},
		"gone at 0":                     gone(0),
		"time -1":                       has(-1, "a"),
		"the least time":                has(math.MinInt, ""),
		"time of MaxTime and 1":         has(1<<60+1, "a"),
		"gone at MaxTime and 1":         gone(1<<60 + 1),
		"the greatest time":             has(math.MaxInt, ""),
		"value too long":                has(5, long(201)),
		"value much too long":           has(5, long(5000)),
		"gone with a value":             {Time: 5, Val: "x", Del: true},
		"gone with a nought":            {Time: 5, Val: "\x00", Del: true},
		"gone with the longest value":   {Time: 5, Val: long(200), Del: true},
		"gone with a value too long":    {Time: 5, Val: long(201), Del: true},
		"gone with a value at MaxTime":  {Time: 1 << 60, Val: "x", Del: true},
		"time 0, and value too long":    has(0, long(201)),
		"time 0, and gone with a value": {Val: "x", Del: true},
	}
}

// right are versions that are right, at the edges of what is.
func right() []api.Version {
	return vers(has(1, ""), has(1, "a"), has(5, long(199)), has(5, long(200)), has(7, "\x00\xff"), has(1<<60-1, "a"), has(1<<60, long(200)), gone(1), gone(5), gone(1<<60))
}

// broken are lists that are no chains.
func broken() map[string][]api.Version {
	m := map[string][]api.Version{
		"a time twice":             vers(has(5, "a"), has(5, "a")),
		"a time twice, one gone":   vers(has(5, "a"), gone(5)),
		"a time twice, both gone":  vers(gone(5), gone(5)),
		"times rise":               vers(has(4, "a"), has(5, "b")),
		"the first times rise":     vers(has(7, "a"), has(8, "b"), has(2, "c"), has(1, "d")),
		"the last times rise":      vers(has(9, "a"), has(8, "b"), has(2, "c"), has(3, "d")),
		"a time again":             vers(has(9, "a"), has(8, "b"), has(9, "c")),
		"the last time twice":      vers(has(9, "a"), has(8, "b"), has(8, "c")),
		"a time twice between":     vers(has(9, "a"), gone(8), gone(8), has(7, "b")),
		"MaxTime twice":            vers(has(1<<60, "a"), has(1<<60, "b")),
		"time 1 twice":             vers(has(1, "a"), has(1, "b")),
		"wrong, and times rise":    vers(has(0, "a"), has(3, "b")),
		"times rise behind many":   append(falling(100), has(1, "a"), has(2, "b")),
		"a time twice behind many": append(falling(100), has(1, "a"), has(1, "b")),
	}
	above, below := vers(has(1<<60, "a"), gone(1<<59)), vers(has(4, "b"), gone(3))
	for name, v := range wrong() {
		m[name+", alone"] = vers(v)
		m[name+", ahead of others"] = slices.Concat(vers(v), below)
		m[name+", behind others"] = slices.Concat(above, vers(v))
		m[name+", between others"] = slices.Concat(above, vers(v), below)
	}
	return m
}

// falling tells a chain of so many versions: of the times 3 * count, .., 9, 6, 3, each third one gone.
func falling(count int) []api.Version {
	var l []api.Version
	for i := count; i > 0; i-- {
		if i%3 == 0 {
			l = append(l, gone(3*i))
		} else {
			l = append(l, has(3*i, strings.Repeat("v", i%201)))
		}
	}
	return l
}

func TestP13Example(t *testing.T) {
	l := example()
	wantCheck(t, "example", l, api.OK)
	wantNothing(t, l, 1)
	wantAt(t, l, 2, "a")
	wantAt(t, l, 6, "b")
	wantNothing(t, l, 9)
	wantVacuum(t, l, 5, vers(gone(7), has(5, "b")))
	wantVacuum(t, l, 6, vers(gone(7), has(5, "b")))
	wantVacuum(t, l, 7, nil)
	wantNoAdd(t, "at the first one's time", l, has(7, "c"), api.ErrTime)
	wantSince(t, l, 6, true)
	wantSince(t, l, 7, false)
}

// The list without versions is a chain, in which there is nothing.
func TestP13Empty(t *testing.T) {
	for _, l := range [][]api.Version{nil, {}, example()[:0]} {
		wantCheck(t, "empty", l, api.OK)
		for _, time := range append([]int{1, 5}, far...) {
			wantNothing(t, l, time)
			wantSince(t, l, time, false)
			wantVacuum(t, l, time, nil)
			wantRewind(t, l, time, nil)
		}
		for _, v := range right() {
			wantAdd(t, l, v, vers(v))
		}
		for name, v := range wrong() {
			wantNoAdd(t, name, l, v, api.ErrArg)
		}
	}
}

// Of what is no chain nothing is told, at any time.
func TestP13Broken(t *testing.T) {
	for name, l := range broken() {
		wantCheck(t, name, l, api.ErrFormat)
		for _, time := range append([]int{1, 2, 3, 4, 5, 6, 7, 8, 9, 10, 300}, far...) {
			wantNothing(t, l, time)
			wantSince(t, l, time, false)
			wantVacuum(t, l, time, nil)
			wantRewind(t, l, time, nil)
			wantNoAdd(t, name, l, has(time, "c"), api.ErrFormat)
		}
	}
}

func TestP13_1Check(t *testing.T) {
	wantCheck(t, "the least and the greatest time", vers(has(1<<60, ""), has(1, "")), api.OK)
	wantCheck(t, "next to one another", vers(gone(1<<60), has(1<<60-1, "a"), gone(1<<60-2)), api.OK)
	wantCheck(t, "all gone", vers(gone(3), gone(2), gone(1)), api.OK)
	wantCheck(t, "a value twice", vers(has(3, "a"), has(2, "a"), has(1, "a")), api.OK)
	wantCheck(t, "the longest values", vers(has(3, long(200)), gone(2), has(1, long(200))), api.OK)
	wantCheck(t, "many", falling(5000), api.OK)
	for _, v := range right() {
		wantCheck(t, "alone", vers(v), api.OK)
	}
}

func TestP13_1At(t *testing.T) {
	l := vers(has(9, ""), gone(7), gone(6), has(5, "b"), has(2, "a"))
	for time, want := range map[int]string{2: "a", 3: "a", 4: "a", 5: "b", 9: "", 10: "", 1<<60 - 1: "", 1 << 60: "", 1<<60 + 1: "", math.MaxInt: ""} {
		wantAt(t, l, time, want)
	}
	for _, time := range []int{math.MinInt, -1 << 60, -1, 0, 1, 6, 7, 8} {
		wantNothing(t, l, time)
	}
	edge := vers(has(1<<60, long(200)), has(1, "a"))
	wantAt(t, edge, 1, "a")
	wantAt(t, edge, 1<<60-1, "a")
	wantAt(t, edge, 1<<60, long(200))
	wantAt(t, edge, math.MaxInt, long(200))
	wantNothing(t, edge, 0)
	wantNothing(t, edge, math.MinInt)
}

func TestP13_1Since(t *testing.T) {
	for _, l := range [][]api.Version{example(), vers(has(7, "a")), vers(gone(7))} {
		for _, time := range []int{math.MinInt, -1, 0, 1, 2, 5, 6} {
			wantSince(t, l, time, true)
		}
		for _, time := range []int{7, 8, 1<<60 - 1, 1 << 60, 1<<60 + 1, math.MaxInt} {
			wantSince(t, l, time, false)
		}
	}
	edge := vers(has(1<<60, "a"), has(1, "b"))
	wantSince(t, edge, 1<<60-1, true)
	wantSince(t, edge, 1<<60, false)
	wantSince(t, vers(has(1, "")), 0, true)
	wantSince(t, vers(has(1, "")), 1, false)
}

func TestP13_2Add(t *testing.T) {
	l := example()
	for _, v := range vers(has(8, "c"), has(8, ""), gone(8), has(9, "b"), has(8, long(200)), gone(1<<60), has(1<<60, "c")) {
		wantAdd(t, l, v, vers(v, l[0], l[1], l[2]))
	}
	wantAdd(t, vers(has(1, "a")), has(2, "a"), vers(has(2, "a"), has(1, "a")))
	wantAdd(t, vers(gone(1)), gone(2), vers(gone(2), gone(1)))
	wantAdd(t, vers(has(1<<60-1, "a")), gone(1<<60), vers(gone(1<<60), has(1<<60-1, "a")))
	l = nil
	for time := 1; time <= 500; time++ {
		v := has(time, strings.Repeat("v", time%201))
		wantAdd(t, l, v, append(vers(v), l...))
		l, _ = chain.Add(l, v)
	}
}

// ErrFormat is answered ahead of ErrArg, and this ahead of ErrTime.
func TestP13_2AddRefused(t *testing.T) {
	for _, time := range []int{1, 2, 3, 5, 6, 7} {
		wantNoAdd(t, "not above the first one", example(), has(time, "c"), api.ErrTime)
		wantNoAdd(t, "not above the first one", example(), gone(time), api.ErrTime)
	}
	wantNoAdd(t, "behind the last time", vers(has(1<<60, "a")), has(1<<60, "a"), api.ErrTime)
	for name, v := range wrong() {
		wantNoAdd(t, name, example(), v, api.ErrArg)
		wantNoAdd(t, name, vers(has(1, "a")), v, api.ErrArg)
		wantNoAdd(t, name, vers(gone(1<<60)), v, api.ErrArg)
		for which, l := range broken() {
			wantNoAdd(t, name+", to "+which, l, v, api.ErrFormat)
		}
	}
	for which, l := range broken() {
		wantNoAdd(t, which, l, has(1<<60, "c"), api.ErrFormat)
		wantNoAdd(t, which, l, has(1, "c"), api.ErrFormat)
	}
}

func TestP13_3Vacuum(t *testing.T) {
	l := vers(has(9, ""), gone(7), gone(6), has(5, "b"), has(2, "a"))
	for mark, count := range map[int]int{math.MinInt: 5, -1: 5, 0: 5, 1: 5, 2: 5, 3: 5, 4: 5, 5: 4, 6: 2, 7: 1, 8: 1, 9: 1, 10: 1, 1 << 60: 1, 1<<60 + 1: 1, math.MaxInt: 1} {
		wantVacuum(t, l, mark, l[:count])
	}
	for mark, count := range map[int]int{math.MinInt: 1, 0: 1, 6: 1, 7: 0, 8: 0, math.MaxInt: 0} {
		wantVacuum(t, vers(gone(7)), mark, vers(gone(7))[:count])
	}
	for _, mark := range append([]int{6, 7, 8}, far...) {
		wantVacuum(t, vers(has(7, "")), mark, vers(has(7, "")))
	}
	// What is gone first stays as long as the mark is below it.
	l = vers(gone(9), gone(4))
	for mark, count := range map[int]int{3: 2, 4: 1, 8: 1, 9: 0} {
		wantVacuum(t, l, mark, l[:count])
	}
}

func TestP13_3Rewind(t *testing.T) {
	l := vers(has(9, ""), gone(7), gone(6), has(5, "b"), has(2, "a"))
	for time, first := range map[int]int{math.MinInt: 5, -1: 5, 0: 5, 1: 5, 2: 4, 4: 4, 5: 3, 6: 2, 7: 1, 8: 1, 9: 0, 10: 0, 1 << 60: 0, 1<<60 + 1: 0, math.MaxInt: 0} {
		wantRewind(t, l, time, l[first:])
	}
	edge := vers(gone(1<<60), has(1, "a"))
	wantRewind(t, edge, 1<<60, edge)
	wantRewind(t, edge, 1<<60-1, edge[1:])
	wantRewind(t, edge, 0, nil)
}
