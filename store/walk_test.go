package store_test

import (
	"slices"
	"strings"
	"testing"

	"ambry/api"
	"ambry/block"
	"ambry/store"
)

// walker is a store on a disk that dies and crashes, and what it is to have by the chapter's words.
type walker struct {
	t      *testing.T
	s      dice
	d      *block.Disk
	x      *store.Store
	tree   *shadow
	fate   fate
	writes []int // of each pending write: how many of the records behind the sure ones it is one of the first slots of; -1: of none
}

// newWalker tells one of an empty store.
func newWalker(t *testing.T, seed int) *walker {
	t.Helper()
	w := &walker{t: t, s: dice(seed)}
	n := 64 + w.s.below(120)
	w.d = formatted(t, n)
	w.x = open(t, w.d)
	w.tree = newShadow(t, (n-2-n/4)/8)
	return w
}

// all tells what the store is to have.
func (w *walker) all() want {
	has := w.fate.was
	has.records = slices.Concat(has.records, w.fate.more)
	return has
}

// kept lets all that was pending be kept.
func (w *walker) kept() {
	w.fate.was, w.fate.more, w.writes = w.all(), nil, nil
}

// append appends a record.
func (w *walker) append() {
	record := strings.Repeat(string(rune('a'+w.s.below(26))), w.s.below(4)*w.s.below(150))
	err := w.x.Append(record)
	room := w.d.Size() / 4
	for _, r := range w.all().records {
		room -= slotsOf(r)
	}
	switch {
	case slotsOf(record) > room:
		wantErr(w.t, "Append without room", err, api.ErrLog)
	case w.d.Dead():
		wantErr(w.t, "Append", err, api.ErrDown)
		w.crash()
	default:
		wantErr(w.t, "Append", err, api.OK)
		w.writes = append(w.writes, slices.Repeat([]int{len(w.fate.more)}, slotsOf(record))...)
		w.fate.more = append(w.fate.more, record)
	}
}

// sync syncs.
func (w *walker) sync() {
	err := w.x.Sync()
	if w.d.Dead() {
		wantErr(w.t, "Sync", err, api.ErrDown)
		w.crash()
		return
	}
	wantErr(w.t, "Sync", err, api.OK)
	w.kept()
}

// changes tells some changes of few keys, now and then of many bytes.
func (w *walker) changes() []api.Change {
	var l []api.Change
	for range w.s.below(8) {
		key := strings.Repeat(string(rune('a'+w.s.below(20))), 1+w.s.below(2)*w.s.below(128))
		c := api.Change{Key: key, Val: strings.Repeat("v", w.s.below(2)*w.s.below(201))}
		if c.Del = w.s.below(3) == 0; c.Del {
			c.Val = ""
		}
		if l = append(l, c); w.s.below(40) == 0 {
			l = append(l, many(60)...)
		}
	}
	if w.s.below(8) == 0 {
		for _, pair := range w.fate.was.pairs {
			l = append(l, api.Change{Key: pair.Key, Del: true})
		}
	}
	return l
}

// checkpoint changes pairs; the times are now and then none that may be.
func (w *walker) checkpoint() {
	l := w.changes()
	was := w.fate.was
	last := was.last + w.s.below(12) - 1
	mark := was.mark + w.s.below(6) - 1
	err := w.x.Checkpoint(l, last, mark)
	next := want{pairs: after(was.pairs, l), last: last, mark: mark}
	switch {
	case last < was.last || mark < was.mark || mark > last:
		wantErr(w.t, "Checkpoint of times that may not be", err, api.ErrArg)
	case w.d.Dead():
		wantErr(w.t, "Checkpoint", err, api.ErrDown)
		w.fate.next = &next
		w.dies(l)
	default:
		wantErr(w.t, "Checkpoint", err, w.tree.checkpoint(l))
		if err == api.OK {
			w.fate, w.writes = fate{was: next}, nil
			break
		}
		for len(w.writes) < w.d.Pending() {
			w.writes = append(w.writes, -1)
		}
	}
}

// dies crashes a disk that died within a checkpoint.
func (w *walker) dies(l []api.Change) {
	wantErr(w.t, "Crash", w.d.Crash(w.s.some(w.d.Pending())), api.OK)
	w.x = open(w.t, w.d)
	has, next := w.fate.found(w.t, w.x)
	if next {
		wantErr(w.t, "the same without a disk that dies", w.tree.checkpoint(l), api.OK)
	}
	w.fate, w.writes = fate{was: has}, nil
}

// crash crashes the disk; of what was appended those records are found that stand ahead of the first slot that was lost.
func (w *walker) crash() {
	keep := w.s.some(w.d.Pending())
	if w.s.below(2) == 0 {
		keep = upTo(w.d.Pending(), w.s.below(w.d.Pending()+1))
	}
	wantErr(w.t, "Crash", w.d.Crash(keep), api.OK)
	for i, n := range w.writes {
		if n >= 0 && !slices.Contains(keep, i) {
			w.fate.more = w.fate.more[:n]
			break
		}
	}
	w.kept()
	w.x = open(w.t, w.d)
}

// step does one call, or several.
func (w *walker) step() {
	switch c := w.s.below(40); {
	case c < 18:
		w.append()
	case c < 24:
		w.sync()
	case c < 32:
		w.checkpoint()
	case c < 35:
		wantErr(w.t, "Arm", w.d.Arm(w.s.below(60)-1), api.OK)
	case c < 37:
		w.crash()
	case c < 39:
		w.x = open(w.t, w.d)
	default:
		if w.all().records != nil {
			wantErr(w.t, "Arm", w.d.Arm(-1), api.OK)
			w.checkpoint()
		}
	}
}

// Long rows of calls on disks that die and crash, held against the chapter's words; whether there is room for pairs, against a tree by itself.
func TestP12Walk(t *testing.T) {
	times, full := 0, 0
	for seed := range 60 {
		w := newWalker(t, seed)
		for range 500 {
			w.step()
			if wrong := w.all().is(w.x); wrong != "" {
				w.all().hold(t, w.x, w.d.Size())
			}
			if w.x.Room() == 0 {
				full++
			}
		}
		w.all().hold(t, w.x, w.d.Size())
		times += findSuper(t, w.d).Gen
	}
	if times < 3000 || full < 100 {
		t.Errorf("%d checkpoints, %d times no room for a record: they tell little", times, full)
	}
}
