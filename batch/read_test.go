package batch_test

import (
	"math"
	"testing"

	"ambry/api"
	"ambry/batch"
)

// The records of batches and marks that are not right, be they written as right ones are, are no records.
func TestP15_2Wrong(t *testing.T) {
	for name, b := range wrong() {
		wantNoRead(t, name, plainRecord(b))
	}
	for size := 16385; size < 16395; size++ {
		wantNoRead(t, "too long", plainRecord(sized(size)))
	}
	wantNoRead(t, "as long as can be", plainRecord(sized(20618)))
	for _, mark := range []int{math.MinInt, -1 << 60, -1, 1<<60 + 1, 1 << 61, math.MaxInt} {
		wantNoRead(t, "a mark", plainMark(mark))
	}
}

func TestP15_2NoRecord(t *testing.T) {
	for name, s := range map[string]string{
		"no bytes":                     "",
		"a kind alone":                 "\x42",
		"a mark's kind alone":          "\x4d",
		"no kind":                      "\x00" + word(5),
		"another kind":                 "\x43" + word(5) + "\x00",
		"a small letter":               "\x62" + word(5) + "\x00",
		"a kind behind a nought":       "\x00" + plainRecord(of(5)),
		"a batch as a mark":            "\x4d" + plainRecord(of(5, puts("a", "x")))[1:],
		"a mark as a batch":            "\x42" + word(5),
		"a mark that is too short":     "\x4d" + word(5)[1:],
		"a change of another kind":     "\x42" + word(5) + "\x01" + "\x02\x01a\x01x",
		"a change of the kind 255":     "\x42" + word(5) + "\x01" + "\xff\x01a\x00",
		"the second of another kind":   "\x42" + word(5) + "\x02" + "\x00\x01a\x01x" + "\x03\x01b\x00",
		"fewer changes than are there": "\x42" + word(5) + "\x01" + "\x00\x01a\x01x" + "\x01\x01b\x00",
		"more changes than are there":  "\x42" + word(5) + "\x02" + "\x00\x01a\x01x",
		"no changes, but bytes":        "\x42" + word(5) + "\x00" + "\x00",
		"none of 255 changes":          "\x42" + word(5) + "\xff",
		"a longer key than is there":   "\x42" + word(5) + "\x01" + "\x00\x02a",
		"a longer value than is there": "\x42" + word(5) + "\x01" + "\x00\x01a\x02x",
		"a key without a value":        "\x42" + word(5) + "\x01" + "\x00\x01a",
		"two batches":                  plainRecord(of(5, puts("a", "x"))) + plainRecord(of(6, puts("a", "x"))),
		"two marks":                    plainMark(5) + plainMark(5),
		"a mark behind a batch":        plainRecord(of(5)) + plainMark(5),
		"more than is kept":            "\x42" + long(1<<20),
		"a mark, and more":             plainMark(5) + long(1<<20),
	} {
		wantNoRead(t, name, s)
	}
}

// What is cut off, or goes on, is no record: not even by noughts, which stand for what is empty.
func TestP15_2Cut(t *testing.T) {
	for name, b := range right() {
		s := plainRecord(b)
		for i := range min(len(s), 500) {
			wantNoRead(t, name+", cut", s[:i])
			wantNoRead(t, name+", cut from its end", s[:len(s)-1-i])
		}
		for _, more := range []string{"\x00", "x", "\x00\x00\x00", s} {
			wantNoRead(t, name+", and more", s+more)
		}
	}
	for _, mark := range []int{0, 258, 1 << 60} {
		s := plainMark(mark)
		for i := range s {
			wantNoRead(t, "a mark, cut", s[:i])
		}
		for _, more := range []string{"\x00", "x", s} {
			wantNoRead(t, "a mark, and more", s+more)
		}
	}
}

// Whichever byte is another one: what is read has just these bytes, or there is nothing.
func TestP15_5EachByteTurned(t *testing.T) {
	records := []string{
		plainRecord(of(5)),
		plainRecord(of(5, puts("a", "x"))),
		plainRecord(of(0x0102030405060708, puts("ab", ""), drops("\x01"), puts("", "\x00\x01"))),
		plainRecord(of(1<<60, drops(""), drops("a"), drops("\x00\x00"))),
		plainMark(0), plainMark(258), plainMark(1 << 60),
	}
	for _, s := range records {
		for i := range s {
			for turned := range 256 {
				wantOwn(t, s[:i]+string([]byte{byte(turned)})+s[i+1:])
			}
		}
	}
}

// wantOwn looks at bytes that may be a record, or not: what is read of them has just these. It tells whether something is.
func wantOwn(t *testing.T, s string) bool {
	t.Helper()
	b, mark, err := batch.Read(s)
	own, why := plainRecord(b), batch.Check(b)
	if b.Time == 0 {
		own = plainMark(mark)
		_, why = batch.Mark(mark)
	}
	switch {
	case err != api.OK:
		wantNoRead(t, "turned", s)
	case own != s || why != api.OK:
		t.Errorf("Read(%x) = %v, %d, 0, whose record is %x, %d", s, b, mark, own, why)
	}
	return err == api.OK
}

// texts are all texts of up to so many bytes, of the bytes 0 to 2.
func texts(most int) []string {
	all, from := []string{""}, 0
	for range most {
		end := len(all)
		for _, s := range all[from:end] {
			all = append(all, s+"\x00", s+"\x01", s+"\x02")
		}
		from = end
	}
	return all
}

// smallBatches hands on all right batches of up to two changes whose records have so many bytes at most behind the time, of the bytes 0 to 2.
func smallBatches(most int, each func(b api.Batch)) {
	var changes []api.Change
	for _, k := range texts(2) {
		changes = append(changes, drops(k))
		for _, v := range texts(2) {
			changes = append(changes, puts(k, v))
		}
	}
	hand := func(l ...api.Change) {
		if b := of(5, l...); len(plainRecord(b)) <= 9+most {
			each(b)
		}
	}
	hand()
	for _, c := range changes {
		hand(c)
		for _, d := range changes {
			if c.Key != d.Key {
				hand(c, d)
			}
		}
	}
}

// Of all small texts of few bytes just the records of small batches are read, each as its batch.
func TestP15_2EachSmallRecord(t *testing.T) {
	const most = 9
	records := map[string]api.Batch{}
	smallBatches(most, func(b api.Batch) { records[plainRecord(b)] = b })
	read := 0
	for _, rest := range texts(most) {
		s := "\x42" + word(5) + rest
		if b, ok := records[s]; ok {
			wantRead(t, "small", s, b, 0)
			read++
		} else {
			wantNoRead(t, "small", s)
		}
	}
	if read != len(records) || read < 100 {
		t.Errorf("%d of %d small records stood among all texts", read, len(records))
	}
}
