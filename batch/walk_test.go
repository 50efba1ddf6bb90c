package batch_test

import (
	"maps"
	"slices"
	"testing"

	"ambry/api"
	"ambry/batch"
)

// dice are numbers that look thrown, and are the same ones each time.
type dice uint64

// below tells a number from 0 on, below n.
func (s *dice) below(n int) int {
	*s = *s*6364136223846793005 + 1442695040888963407
	return int((uint64(*s) >> 33) % uint64(n))
}

// text tells a text of at most so many bytes, most of them of few kinds, so that texts begin with one another.
func (s *dice) text(most int) string {
	b := make([]byte, s.below(most+1))
	for i := range b {
		b[i] = "\x00\x01\x0f\xffab"[s.below(6)]
		if s.below(8) == 0 {
			b[i] = byte(s.below(256))
		}
	}
	return string(b)
}

// most tells how long texts may be this time: short ones more often.
func (s *dice) most(longest int) int {
	return []int{1, 2, 9, longest}[s.below(4)]
}

// time tells a time, of all sizes that there are.
func (s *dice) time() int {
	return 1 + s.below(1<<s.below(31))<<s.below(30)
}

// batch tells a batch that is right, though its record may be too long.
func (s *dice) batch() api.Batch {
	b := of(s.time())
	seen := map[string]bool{}
	for range s.below(65) {
		c := puts(s.text(s.most(120)), s.text(s.most(199)))
		if s.below(3) == 0 {
			c = drops(c.Key)
		}
		if !seen[c.Key] {
			b.Changes = append(b.Changes, c)
		}
		seen[c.Key] = true
	}
	return b
}

// items tells items that are right.
func (s *dice) items() []api.Item {
	chains := map[string][]api.Version{}
	for range s.below(12) {
		var l []api.Version
		time := s.time()
		for range 1 + s.below(5) {
			v := has(time, s.text(s.most(199)))
			if s.below(3) == 0 {
				v = gone(time)
			}
			l = append(l, v)
			time -= s.time()
			if time < 1 {
				break
			}
		}
		chains[s.text(s.most(120))] = l
	}
	var l []api.Item
	for _, k := range slices.Sorted(maps.Keys(chains)) {
		l = append(l, item(k, chains[k]...))
	}
	return l
}

// row tells a row of pairs, of few keys or of many.
func (s *dice) row() []api.Pair {
	m := map[string]string{}
	most := s.most(40)
	for range s.below(30) {
		m[s.text(most)] = s.text(1)
	}
	return rowOf(m)
}

func TestP15_5ReadOfBytes(t *testing.T) {
	s := dice(5)
	big := 0
	for range 1000 {
		b := s.batch()
		if len(plainRecord(b)) > api.MaxRecord {
			wantNoBytes(t, "too long", b, api.ErrBig)
			wantNoRead(t, "too long", plainRecord(b))
			big++
			continue
		}
		wantBytes(t, "walk", b)
	}
	for range 1000 {
		wantMark(t, s.time())
	}
	if big > 500 {
		t.Errorf("%d of 1000 were too long", big)
	}
}

// A few bytes of records are turned, cut out, or put in: what is read has just the bytes that there are.
func TestP15_5ReadOfTurned(t *testing.T) {
	s := dice(6)
	read := 0
	for range 20000 {
		b := of(s.time())
		for i := range s.below(4) {
			b.Changes = append(b.Changes, puts(key(i, 1)+s.text(2), s.text(2)))
		}
		record := []byte(plainRecord(b))
		for range 1 + s.below(2) {
			at := 9 + s.below(len(record)-9)
			switch s.below(3) {
			case 0:
				record[at] = byte(s.below(4))
			case 1:
				record = slices.Delete(record, at, at+1)
			case 2:
				record = slices.Insert(record, at, byte(s.below(4)))
			}
			if len(record) <= 9 {
				break
			}
		}
		if wantOwn(t, string(record)) {
			read++
		}
	}
	if read < 100 {
		t.Errorf("%d of 20000 were records", read)
	}
}

func TestP15_5ItemsOfPairs(t *testing.T) {
	s := dice(7)
	between := 0
	for range 2000 {
		l := s.items()
		want := plainPairs(l)
		wantPairs(t, "walk", l, want)
		var asTheyStand []api.Pair
		for _, item := range l {
			asTheyStand = append(asTheyStand, plainPairs(items(item))...)
		}
		if !slices.Equal(asTheyStand, want) {
			wantNoItems(t, "as the items stand", asTheyStand)
			between++
		}
	}
	if between < 100 {
		t.Errorf("of %d items alone a key's pairs stood among another one's", between)
	}
}

// plainDiffer tells the least changes that make one map of another.
func plainDiffer(a, b map[string]string) []api.Change {
	both := maps.Clone(a)
	maps.Copy(both, b)
	var l []api.Change
	for _, k := range slices.Sorted(maps.Keys(both)) {
		was, there := a[k]
		is, still := b[k]
		switch {
		case !still:
			l = append(l, drops(k))
		case !there || was != is:
			l = append(l, puts(k, is))
		}
	}
	return l
}

// done tells what changes make of a row of pairs.
func done(a []api.Pair, l []api.Change) []api.Pair {
	m := mapOf(a)
	for _, c := range l {
		if c.Del {
			delete(m, c.Key)
		} else {
			m[c.Key] = c.Val
		}
	}
	return rowOf(m)
}

// wantMade looks at the changes between two rows of pairs, and at what they lead to.
func wantMade(t *testing.T, a, b []api.Pair) {
	t.Helper()
	wantDiffer(t, "made", a, b, plainDiffer(mapOf(a), mapOf(b)))
	if got := done(a, batch.Differ(a, b)); !slices.Equal(got, b) {
		t.Errorf("the changes of Differ(%q, %q) lead to %q", a, b, got)
	}
	wantDiffer(t, "itself", a, a, nil)
}

// smallRows are all rows of a, b, c and d, each without a value, of the empty one, or of 1.
func smallRows() [][]api.Pair {
	var rows [][]api.Pair
	for way := range 81 {
		m := map[string]string{}
		for _, k := range []string{"a", "b", "c", "d"} {
			switch way % 3 {
			case 1:
				m[k] = ""
			case 2:
				m[k] = "1"
			}
			way /= 3
		}
		rows = append(rows, rowOf(m))
	}
	return rows
}

func TestP15_6Made(t *testing.T) {
	for _, a := range smallRows() {
		for _, b := range smallRows() {
			wantMade(t, a, b)
		}
	}
	s := dice(8)
	for range 2000 {
		a, b := s.row(), s.row()
		if s.below(2) == 0 {
			b = done(a, []api.Change{puts(s.text(2), "x"), drops(s.text(2)), puts(s.text(2), "")})
		}
		wantMade(t, a, b)
	}
}

// The pairs of items differ by just those of the versions by which these do.
func TestP15_6MadeOfItems(t *testing.T) {
	was := items(item("a", gone(7), has(2, "p")), item("b", has(3, "q")))
	is := items(item("a", has(9, "r"), gone(7)), item("ab", has(9, "")), item("b", has(3, "q")))
	a, _ := batch.Pairs(was)
	b, _ := batch.Pairs(is)
	wantDiffer(t, "items", a, b, []api.Change{puts("a"+word(1<<60-9), "\x01r"), drops("a" + word(1<<60-2)), puts("ab"+word(1<<60-9), "\x01")})
	wantMade(t, a, b)
	wantItems(t, "made", done(a, batch.Differ(a, b)), is)
}

// roomy tells a list alike, with room behind its end, and something there.
func roomy[T any](l []T, behind T) []T {
	return append(slices.Clone(l), behind)[:len(l)]
}

// wantRoomy looks at whether a list that roomy told is as it was, behind its end too.
func wantRoomy[T comparable](t *testing.T, l, was []T, behind T) {
	t.Helper()
	if whole := append(slices.Clone(was), behind); !slices.Equal(l[:len(was)+1], whole) {
		t.Errorf("%v was changed to %v", whole, l[:len(was)+1])
	}
}

// spoil writes over all that a list has, and over what room there is behind.
func spoil[T any](l []T, by T) {
	l = l[:cap(l)]
	for i := range l {
		l[i] = by
	}
}

// What is handed in stays as it is, behind its end too, and shares nothing with what is answered, nor do two answers.
func TestP15ApartChanges(t *testing.T) {
	s := dice(9)
	for range 200 {
		b := s.batch()
		in := of(b.Time, roomy(b.Changes, drops("behind"))...)
		record, _ := batch.Bytes(in)
		batch.Check(in)
		wantRoomy(t, in.Changes, b.Changes, drops("behind"))
		first, _, _ := batch.Read(record)
		second, _, _ := batch.Read(record)
		want := slices.Clone(second.Changes)
		spoil(first.Changes, drops("spoilt"))
		if !slices.Equal(second.Changes, want) {
			t.Errorf("what is read of %x shares its changes with what was", record)
		}
	}
	for range 200 {
		a, b := s.row(), s.row()
		inA, inB := roomy(a, api.Pair{Key: "behind"}), roomy(b, api.Pair{Val: "behind"})
		first, second := batch.Differ(inA, inB), batch.Differ(inA, inB)
		want := slices.Clone(second)
		spoil(first, drops("spoilt"))
		if !slices.Equal(second, want) {
			t.Errorf("Differ(%q, %q) shares its changes with what it told", a, b)
		}
		wantRoomy(t, inA, a, api.Pair{Key: "behind"})
		wantRoomy(t, inB, b, api.Pair{Val: "behind"})
	}
}

// roomyItems tells items alike, with room behind each list's end.
func roomyItems(l []api.Item) []api.Item {
	out := roomy(l, item("behind"))
	for i := range out {
		out[i].Versions = roomy(out[i].Versions, gone(99))
	}
	return out
}

func TestP15ApartPairs(t *testing.T) {
	s := dice(10)
	for range 300 {
		l := s.items()
		in, row := roomyItems(l), plainPairs(l)
		first, _ := batch.Pairs(in)
		second, _ := batch.Pairs(in)
		spoil(first, api.Pair{Key: "spoilt"})
		if !slices.Equal(second, row) {
			t.Errorf("Pairs(%v) shares its pairs with what it told", l)
		}
		if !slices.EqualFunc(in, l, sameItem) || in[:len(l)+1][len(l)].Key != "behind" {
			t.Errorf("%v was changed to %v", l, in)
		}
		for i := range in {
			wantRoomy(t, in[i].Versions, l[i].Versions, gone(99))
		}
	}
	for range 300 {
		l := s.items()
		row := plainPairs(l)
		in := roomy(row, api.Pair{Key: "behind"})
		first, _ := batch.Items(in)
		second, _ := batch.Items(in)
		for i, item := range first {
			// No list of an answer may stand in another one's room.
			spoil(item.Versions, gone(77))
			if i+1 < len(first) && !slices.Equal(first[i+1].Versions, l[i+1].Versions) {
				t.Errorf("Items(%q): the versions of %q stand in the room of those ahead", row, first[i+1].Key)
			}
		}
		spoil(first, item("spoilt"))
		if !slices.EqualFunc(second, l, sameItem) {
			t.Errorf("Items(%q) shares its items with what it told", row)
		}
		wantRoomy(t, in, row, api.Pair{Key: "behind"})
	}
}

// Of many keys all is told as it is of few.
func TestP15_3Great(t *testing.T) {
	var l []api.Item
	for i := range 20000 {
		l = append(l, item(word(i), has(1<<60, "x"), gone(5), has(1, "y")))
	}
	wantPairs(t, "great", l, plainPairs(l))
	wantDiffer(t, "great", plainPairs(l), plainPairs(l), nil)
}
