package super_test

import (
	"bytes"
	"encoding/binary"
	"hash/crc32"
	"math"
	"math/bits"
	"strings"
	"testing"

	"ambry/api"
	"ambry/super"
)

// raw are what a sector's bytes are made of, whether a super has such or not.
type raw struct {
	begin  string
	gen    uint64
	root   uint32 // and 1
	start  uint64
	epoch  uint32
	last   uint64
	mark   uint64
	behind string
}

// seal tells bytes, and their sum behind, as the words of the chapter tell it.
func seal(b []byte) []byte {
	return binary.BigEndian.AppendUint32(b, crc32.Checksum(b, crc32.MakeTable(crc32.Castagnoli)))
}

// fields tells the bytes ahead of the sum.
func (r raw) fields() []byte {
	b := []byte(r.begin)
	b = binary.BigEndian.AppendUint64(b, r.gen)
	b = binary.BigEndian.AppendUint32(b, r.root)
	b = binary.BigEndian.AppendUint64(b, r.start)
	b = binary.BigEndian.AppendUint32(b, r.epoch)
	b = binary.BigEndian.AppendUint64(b, r.last)
	return binary.BigEndian.AppendUint64(b, r.mark)
}

// sector tells the bytes, with a sum that holds, and noughts behind.
func (r raw) sector() []byte {
	b := append(seal(r.fields()), r.behind...)
	return append(b, make([]byte, 128-len(b))...)
}

// rawOf tells what a right super's bytes are made of.
func rawOf(s api.Super) raw {
	return raw{begin: "AMBR", gen: uint64(s.Gen), root: uint32(s.Root + 1), start: uint64(s.Start), epoch: uint32(s.Epoch), last: uint64(s.Last), mark: uint64(s.Mark)}
}

var (
	rightSeqs   = []int{0, 1, 2, 127, 128, 255, 256, 1<<31 - 1, 1 << 31, 1<<32 - 1, 1 << 32, 0x0102030405060708, 1<<60 - 1, 1 << 60}
	wrongSeqs   = []int{-1, -2, -1 << 60, 1<<60 + 1, 1<<60 + 2, 1 << 61, 1 << 62, math.MaxInt - 1, math.MaxInt, math.MinInt, math.MinInt + 1}
	rightRoots  = []int{-1, 0, 1, 2, 254, 255, 256, 257, 8191, 16382, 16383}
	wrongRoots  = []int{-2, -3, -128, 16384, 16385, 1<<31 - 1, 1 << 31, 1<<32 - 2, 1<<32 - 1, 1 << 32, 1<<32 + 1, math.MaxInt, math.MinInt}
	rightEpochs = []int{0, 1, 2, 255, 256, 65536, 0x01020304, 1<<31 - 2, 1<<31 - 1}
	wrongEpochs = []int{-1, -2, -1 << 31, 1 << 31, 1<<31 + 1, 1<<32 - 1, 1 << 32, 1<<32 + 1, math.MaxInt, math.MinInt}
)

// lowest and highest are right supers of which nothing can be less, or more; middle is another one.
func lowest() api.Super  { return api.Super{Root: -1} }
func highest() api.Super { return of(1<<60, 16383, 1<<60, 1<<31-1, 1<<60, 1<<60) }
func middle() api.Super  { return of(3, 6, 258, 2, 9, 4) }

// of tells a super of its fields, in their order.
func of(gen, root, start, epoch, last, mark int) api.Super {
	return api.Super{Gen: gen, Root: root, Start: start, Epoch: epoch, Last: last, Mark: mark}
}

// each goes through supers that are base but for one field.
func each(base api.Super, seqs, roots, epochs []int, do func(api.Super)) {
	for _, n := range seqs {
		s := base
		s.Gen = n
		do(s)
		s = base
		s.Start = n
		do(s)
	}
	for _, n := range roots {
		s := base
		s.Root = n
		do(s)
	}
	for _, n := range epochs {
		s := base
		s.Epoch = n
		do(s)
	}
}

// rightSupers are right supers at the edges, and some within.
func rightSupers() []api.Super {
	var l []api.Super
	put := func(s api.Super) { l = append(l, s) }
	for _, base := range []api.Super{{}, lowest(), middle(), highest()} {
		put(base)
		each(base, rightSeqs, rightRoots, rightEpochs, put)
	}
	for _, last := range rightSeqs {
		for _, mark := range []int{0, 1, last / 2, last - 1, last} {
			if mark >= 0 && mark <= last {
				put(api.Super{Last: last, Mark: mark})
				put(of(1<<60, -1, 7, 8, last, mark))
			}
		}
	}
	return l
}

// wrongSupers are supers one thing of which is outside, or all.
func wrongSupers() []api.Super {
	var l []api.Super
	put := func(s api.Super) { l = append(l, s) }
	for _, base := range []api.Super{{}, lowest(), middle(), highest()} {
		each(base, wrongSeqs, wrongRoots, wrongEpochs, put)
		for _, n := range wrongSeqs {
			last, mark, both := base, base, base
			last.Last, mark.Mark, both.Last, both.Mark = n, n, n, n
			l = append(l, last, mark, both)
		}
	}
	for _, last := range rightSeqs {
		for _, mark := range []int{last + 1, last + 2, 1<<60 + 1} {
			put(api.Super{Last: last, Mark: mark})
		}
		if last > 0 {
			put(api.Super{Last: last, Mark: -1})
			put(api.Super{Last: last - 1, Mark: last})
			put(api.Super{Last: -last, Mark: -last})
		}
	}
	put(api.Super{Mark: 1 << 60})
	put(of(-1, -2, -1, -1, -1, -1))
	return l
}

func TestP11_1Check(t *testing.T) {
	for _, s := range rightSupers() {
		if err := super.Check(s); err != api.OK {
			t.Errorf("Check(%+v) = %d", s, err)
		}
	}
	for _, s := range wrongSupers() {
		if err := super.Check(s); err != api.ErrArg {
			t.Errorf("Check(%+v) = %d, want %d", s, err, api.ErrArg)
		}
	}
}

func TestP11_1BytesByHand(t *testing.T) {
	s := api.Super{Gen: 0x0102030405060708, Root: 0x1233, Start: 0x0910111213141516, Epoch: 0x17181920, Last: 0x0e22232425262728, Mark: 0x0d30313233343536}
	ahead := "AMBR\x01\x02\x03\x04\x05\x06\x07\x08\x00\x00\x12\x34\x09\x10\x11\x12\x13\x14\x15\x16\x17\x18\x19\x20" +
		"\x0e\x22\x23\x24\x25\x26\x27\x28\x0d\x30\x31\x32\x33\x34\x35\x36"
	want := string(seal([]byte(ahead))) + strings.Repeat("\x00", 80)
	if b, err := super.Bytes(s); err != api.OK || string(b) != want {
		t.Errorf("%x, %d, want %x", b, err, want)
	}
	want = string(seal([]byte("AMBR"+strings.Repeat("\x00", 40)))) + strings.Repeat("\x00", 80)
	if b, err := super.Bytes(lowest()); err != api.OK || string(b) != want {
		t.Errorf("%x, %d, want %x", b, err, want)
	}
}

func TestP11_1Bytes(t *testing.T) {
	for _, s := range rightSupers() {
		b, err := super.Bytes(s)
		if want := rawOf(s).sector(); err != api.OK || !bytes.Equal(b, want) {
			t.Errorf("Bytes(%+v) = %x, %d, want %x", s, b, err, want)
		}
	}
	for _, s := range wrongSupers() {
		if b, err := super.Bytes(s); len(b) != 0 || err != api.ErrArg {
			t.Errorf("Bytes(%+v) = %x, %d, want %d", s, b, err, api.ErrArg)
		}
	}
}

// wantRead looks at the super of bytes.
func wantRead(t *testing.T, b []byte, want api.Super) {
	t.Helper()
	if s, err := super.Read(b); s != want || err != api.OK {
		t.Errorf("Read(%x) = %+v, %d, want %+v", b, s, err, want)
	}
}

// wantNoSuper looks at bytes that no right super has.
func wantNoSuper(t *testing.T, b []byte) {
	t.Helper()
	if s, err := super.Read(b); s != (api.Super{}) || err != api.ErrFormat {
		t.Errorf("Read(%x) = %+v, %d, want none, %d", b, s, err, api.ErrFormat)
	}
}

func TestP11_1Read(t *testing.T) {
	for _, s := range rightSupers() {
		wantRead(t, rawOf(s).sector(), s)
	}
}

// Each field by itself is not a right super's, and the sum holds.
func TestP11_1ReadOfWrongFields(t *testing.T) {
	for _, base := range []raw{rawOf(lowest()), rawOf(middle()), rawOf(highest())} {
		for _, n := range []uint64{1<<60 + 1, 1<<60 + 2, 1 << 61, 1 << 62, 1<<63 - 1, 1 << 63, 1<<63 + 1, 1<<64 - 2, 1<<64 - 1} {
			gen, start, last, mark, both := base, base, base, base, base
			gen.gen, start.start, last.last, mark.mark, both.last, both.mark = n, n, n, n, n, n
			for _, r := range []raw{gen, start, last, mark, both} {
				wantNoSuper(t, r.sector())
			}
		}
		for _, n := range []uint32{16385, 16386, 1 << 15, 1<<16 + 1, 1<<31 - 1, 1 << 31, 1<<31 + 1, 1<<32 - 2, 1<<32 - 1} {
			r := base
			r.root = n
			wantNoSuper(t, r.sector())
		}
		for _, n := range []uint32{1 << 31, 1<<31 + 1, 1<<32 - 2, 1<<32 - 1} {
			r := base
			r.epoch = n
			wantNoSuper(t, r.sector())
		}
	}
	for _, last := range []uint64{0, 1, 9, 1 << 32, 1<<60 - 1} {
		wantNoSuper(t, raw{begin: "AMBR", last: last, mark: last + 1}.sector())
	}
}

func TestP11_1ReadOfAnotherMark(t *testing.T) {
	for i := range 4 {
		for c := range 256 {
			mark := []byte("AMBR")
			mark[i] = byte(c)
			r := rawOf(middle())
			r.begin = string(mark)
			if r.begin == "AMBR" {
				wantRead(t, r.sector(), middle())
			} else {
				wantNoSuper(t, r.sector())
			}
		}
	}
	for _, mark := range []string{"ambr", "RBMA", "\x00\x00\x00\x00", "S\x00\x00\x00"} {
		r := rawOf(middle())
		r.begin = mark
		wantNoSuper(t, r.sector())
	}
}

// What stands behind the sum is noughts, and nothing else.
func TestP11_1ReadOfWhatStandsBehind(t *testing.T) {
	for i := range 80 {
		for _, c := range []string{"\x01", "\x80", "\xff", "A"} {
			r := rawOf(middle())
			r.behind = strings.Repeat("\x00", i) + c
			wantNoSuper(t, r.sector())
		}
	}
	r := rawOf(middle())
	r.behind = strings.Repeat("x", 80)
	wantNoSuper(t, r.sector())
}

// Another sum does not hold: one of other bytes, one with its bytes turned round, one behind the noughts.
func TestP11_1ReadOfAnotherSum(t *testing.T) {
	r := rawOf(middle())
	whole := r.sector()
	put := func(sum uint32) []byte {
		b := bytes.Clone(whole)
		binary.BigEndian.PutUint32(b[44:], sum)
		return b
	}
	right := binary.BigEndian.Uint32(whole[44:])
	wantRead(t, put(right), middle())
	others := []uint32{0, 1<<32 - 1, ^right, right + 1, right - 1, bits.ReverseBytes32(right), crc32.ChecksumIEEE(whole[:44]), binary.BigEndian.Uint32(seal(whole[:40])[40:])}
	for _, sum := range others {
		wantNoSuper(t, put(sum))
	}
	for i := range 4 {
		for c := 1; c < 256; c++ {
			wantNoSuper(t, put(right^uint32(c)<<(8*i)))
		}
	}
	atEnd := seal(append(r.fields(), make([]byte, 80)...))
	wantNoSuper(t, atEnd)
}

func TestP11_1ReadOfOtherLengths(t *testing.T) {
	wantNoSuper(t, nil)
	whole := rawOf(middle()).sector()
	for size := range whole {
		wantNoSuper(t, whole[:size])
		wantNoSuper(t, whole[:size:size])
		wantNoSuper(t, make([]byte, size))
	}
	wantNoSuper(t, make([]byte, 128))
	wantNoSuper(t, bytes.Repeat([]byte{0xff}, 128))
	for _, more := range []int{1, 2, 4, 44, 128, 1024} {
		wantNoSuper(t, append(bytes.Clone(whole), make([]byte, more)...))
	}
	wantNoSuper(t, append(bytes.Clone(whole), whole...))
	wantNoSuper(t, append([]byte{0}, whole[:127]...))
	wantNoSuper(t, append(bytes.Clone(whole[1:]), 0))
}

func TestP11_1MemoryIsOwn(t *testing.T) {
	b, _ := super.Bytes(middle())
	kept := bytes.Clone(b)
	again, _ := super.Bytes(middle())
	again = again[:cap(again)]
	for i := range again {
		again[i] = 0xee
	}
	if third, _ := super.Bytes(middle()); !bytes.Equal(b, kept) || !bytes.Equal(third, kept) {
		t.Error("two answers share memory")
	}
	long := append(bytes.Clone(b), "behind"...)
	read, _ := super.Read(long[:128])
	if !bytes.Equal(long[:128], kept) || string(long[128:]) != "behind" {
		t.Error("Read changed what was handed in, or what stands behind it")
	}
	if read != middle() {
		t.Errorf("Read = %+v", read)
	}
}

func TestP11_4ThereAndBack(t *testing.T) {
	forms, supers := map[string]bool{}, map[api.Super]bool{}
	for _, s := range rightSupers() {
		b, err := super.Bytes(s)
		if err != api.OK {
			t.Fatalf("Bytes(%+v): Err %d", s, err)
		}
		wantRead(t, b, s)
		forms[string(b)], supers[s] = true, true
	}
	if len(forms) != len(supers) {
		t.Errorf("%d supers have %d forms", len(supers), len(forms))
	}
}

// What Read takes has just the bytes that Bytes tells, whichever bytes it was given.
func TestP11_4OneForm(t *testing.T) {
	s, taken := dice(1), 0
	for range 60000 {
		r := rawOf(s.right())
		for range s.below(3) {
			s.bend(&r)
		}
		b := r.sector()
		read, err := super.Read(b)
		if err != api.OK {
			continue
		}
		taken++
		if again, err := super.Bytes(read); err != api.OK || !bytes.Equal(again, b) {
			t.Fatalf("Read took %x, of which Bytes tells %x, %d", b, again, err)
		}
	}
	if taken < 20000 || taken > 50000 {
		t.Errorf("the bytes tell little: %d of 60000 taken", taken)
	}
}

// turn turns those bits of b that pattern has, from the bit at on, of each byte the lowest one first.
func turn(b []byte, at int, pattern uint32) {
	for i := range 32 {
		if pattern>>i&1 == 1 {
			b[(at+i)/8] ^= 1 << ((at + i) % 8)
		}
	}
}

func TestP11_4OneBit(t *testing.T) {
	for _, s := range []api.Super{{}, lowest(), middle(), highest()} {
		b := rawOf(s).sector()
		for at := range 8 * len(b) {
			b[at/8] ^= 1 << (at % 8)
			wantNoSuper(t, b)
			b[at/8] ^= 1 << (at % 8)
		}
		wantRead(t, b, s)
	}
}

// Of each row of up to 32 bits ahead of the sum: all turned, the ends alone, and some between them.
func TestP11_4ManyBits(t *testing.T) {
	s := dice(3)
	for _, x := range []api.Super{lowest(), middle(), highest()} {
		b := rawOf(x).sector()
		for size := 1; size <= 32; size++ {
			ends, all := uint32(1)|1<<(size-1), uint32(1<<size-1)
			for at := range 8*44 - size + 1 {
				for _, pattern := range []uint32{ends, all, ends | uint32(s.word())&all} {
					turn(b, at, pattern)
					wantNoSuper(t, b)
					turn(b, at, pattern)
				}
			}
		}
		wantRead(t, b, x)
	}
}
