package slot_test

import (
	"bytes"
	"encoding/binary"
	"hash/crc32"
	"math"
	"strings"
	"testing"

	"ambry/api"
	"ambry/slot"
)

// raw are what a sector's bytes are made of, whether a slot has such or not.
type raw struct {
	mark  byte
	flags byte
	epoch uint32
	seq   uint64
	size  uint16
	room  string
}

// seal tells bytes, and their sum behind, as the words of the chapter tell it.
func seal(b []byte) []byte {
	return binary.BigEndian.AppendUint32(b, crc32.Checksum(b, crc32.MakeTable(crc32.Castagnoli)))
}

// sector tells the bytes, with noughts behind what stands in the room, and a sum that holds.
func (r raw) sector() []byte {
	b := []byte{r.mark, r.flags}
	b = binary.BigEndian.AppendUint32(b, r.epoch)
	b = binary.BigEndian.AppendUint64(b, r.seq)
	b = binary.BigEndian.AppendUint16(b, r.size)
	b = append(b, r.room...)
	return seal(append(b, make([]byte, 108-len(r.room))...))
}

// rawOf tells what a right slot's bytes are made of.
func rawOf(s api.Slot) raw {
	r := raw{mark: 0x53, epoch: uint32(s.Epoch), seq: uint64(s.Seq), size: uint16(len(s.Data)), room: s.Data}
	if s.First {
		r.flags |= 1
	}
	if s.Last {
		r.flags |= 2
	}
	return r
}

// texts are data of several kinds and lengths, that fit a slot.
func texts() []string {
	l := []string{"", "\x00", "ab", "ab\x00", "\x00\x00ab", "S", "é", "\xff"}
	for _, size := range []int{2, 15, 16, 53, 107, 108} {
		l = append(l, strings.Repeat("\x00", size), strings.Repeat("\xff", size), mixed(size, 1), mixed(size, 2))
	}
	return l
}

// mixed are so many bytes, by a short rule; of other seeds others.
func mixed(size int, seed uint32) string {
	b := make([]byte, size)
	for i := range b {
		seed = seed*1664525 + 1013904223
		b[i] = byte(seed >> 24)
	}
	return string(b)
}

var (
	rightEpochs = []int{0, 1, 2, 127, 128, 255, 256, 65535, 65536, 1<<24 + 5, 1<<31 - 2, 1<<31 - 1}
	wrongEpochs = []int{-1, -2, -1 << 31, 1 << 31, 1<<31 + 1, 1<<32 - 1, 1 << 32, 1<<32 + 1, math.MaxInt, math.MinInt}
	rightSeqs   = []int{0, 1, 2, 107, 108, 109, 255, 256, 300, 1<<31 - 1, 1 << 31, 1 << 32, 1<<60 - 1, 1 << 60}
	wrongSeqs   = []int{-1, -2, -1 << 60, 1<<60 + 1, 1<<60 + 2, 1 << 61, 1 << 62, math.MaxInt - 1, math.MaxInt, math.MinInt, math.MinInt + 1}
	wrongSizes  = []int{109, 110, 127, 128, 256, 256 + 108, 65535, 65536, 65536 + 2}
)

// rightSlots are right slots at the edges, and some within.
func rightSlots() []api.Slot {
	var l []api.Slot
	put := func(epoch, seq int, data string) {
		for flags := range 4 {
			l = append(l, api.Slot{Epoch: epoch, Seq: seq, First: flags&1 == 1, Last: flags&2 == 2, Data: data})
		}
	}
	for _, epoch := range rightEpochs {
		for _, seq := range rightSeqs {
			put(epoch, seq, "ab")
		}
	}
	for _, data := range texts() {
		put(0, 0, data)
		put(1<<31-1, 1<<60, data)
	}
	return l
}

// wrongSlots are slots one thing of which is outside, or all.
func wrongSlots() []api.Slot {
	var l []api.Slot
	put := func(epoch, seq, size int) {
		l = append(l, api.Slot{Epoch: epoch, Seq: seq, First: true, Last: true, Data: strings.Repeat("x", size)})
		l = append(l, api.Slot{Epoch: epoch, Seq: seq, Data: strings.Repeat("\x00", size)})
	}
	for _, epoch := range wrongEpochs {
		put(epoch, 0, 0)
		put(epoch, 1<<60, 108)
	}
	for _, seq := range wrongSeqs {
		put(0, seq, 0)
		put(1<<31-1, seq, 108)
	}
	for _, size := range wrongSizes {
		put(0, 0, size)
		put(1<<31-1, 1<<60, size)
	}
	put(-1, -1, 109)
	return l
}

func TestP5_1Check(t *testing.T) {
	for _, s := range rightSlots() {
		if err := slot.Check(s); err != api.OK {
			t.Errorf("Check(%+v) = %d", s, err)
		}
	}
	for _, s := range wrongSlots() {
		if err := slot.Check(s); err != api.ErrArg {
			t.Errorf("Check of %d, %d, %d bytes = %d, want %d", s.Epoch, s.Seq, len(s.Data), err, api.ErrArg)
		}
	}
}

func TestP5_2BytesByHand(t *testing.T) {
	b, err := slot.Bytes(api.Slot{Epoch: 0x01020304, Seq: 0x05060708090a0b0c, Last: true, Data: "data"})
	want := "\x53\x02\x01\x02\x03\x04\x05\x06\x07\x08\x09\x0a\x0b\x0c\x00\x04data" + strings.Repeat("\x00", 104)
	if err != api.OK || len(b) != 128 || string(b[:124]) != want {
		t.Errorf("%x, %d, want %x", b, err, want)
	}
	for flags, s := range []api.Slot{{}, {First: true}, {Last: true}, {First: true, Last: true}} {
		if b, err := slot.Bytes(s); err != api.OK || len(b) != 128 || b[1] != byte(flags) {
			t.Errorf("flags of %+v: %x, %d, want %d", s, b, err, flags)
		}
	}
}

func TestP5_2Bytes(t *testing.T) {
	for _, s := range rightSlots() {
		b, err := slot.Bytes(s)
		if want := rawOf(s).sector(); err != api.OK || !bytes.Equal(b, want) {
			t.Errorf("Bytes(%+v) = %x, %d, want %x", s, b, err, want)
		}
	}
	for _, s := range wrongSlots() {
		if b, err := slot.Bytes(s); len(b) != 0 || err != api.ErrArg {
			t.Errorf("Bytes of %d, %d, %d bytes = %x, %d, want %d", s.Epoch, s.Seq, len(s.Data), b, err, api.ErrArg)
		}
	}
}

// wantRead looks at the slot of bytes.
func wantRead(t *testing.T, b []byte, want api.Slot) {
	t.Helper()
	if s, err := slot.Read(b); s != want || err != api.OK {
		t.Errorf("Read(%x) = %+v, %d, want %+v", b, s, err, want)
	}
}

// wantNoSlot looks at bytes that no right slot has.
func wantNoSlot(t *testing.T, b []byte) {
	t.Helper()
	if s, err := slot.Read(b); s != (api.Slot{}) || err != api.ErrFormat {
		t.Errorf("Read(%x) = %+v, %d, want none, %d", b, s, err, api.ErrFormat)
	}
}

func TestP5_2Read(t *testing.T) {
	for _, s := range rightSlots() {
		wantRead(t, rawOf(s).sector(), s)
	}
}

// Each thing by itself is not a slot's, and the sum holds.
func TestP5_2ReadOfNoSlot(t *testing.T) {
	for mark := range 256 {
		if mark != 0x53 {
			wantNoSlot(t, raw{mark: byte(mark), flags: 3}.sector())
		}
	}
	for flags := 4; flags < 256; flags++ {
		wantNoSlot(t, raw{mark: 0x53, flags: byte(flags)}.sector())
	}
	for _, epoch := range []uint32{1 << 31, 1<<31 + 1, 1<<32 - 2, 1<<32 - 1} {
		wantNoSlot(t, raw{mark: 0x53, epoch: epoch}.sector())
	}
	for _, seq := range []uint64{1<<60 + 1, 1<<60 + 2, 1 << 61, 1<<63 - 1, 1 << 63, 1<<63 + 1, 1<<64 - 1} {
		wantNoSlot(t, raw{mark: 0x53, seq: seq}.sector())
	}
	full := strings.Repeat("x", 108)
	for _, size := range []uint16{109, 110, 111, 112, 113, 127, 128, 256, 256 + 2, 1<<15 + 2, 65534, 65535} {
		wantNoSlot(t, raw{mark: 0x53, size: size}.sector())
		wantNoSlot(t, raw{mark: 0x53, size: size, room: full}.sector())
	}
	for size := range 108 {
		wantNoSlot(t, raw{mark: 0x53, size: uint16(size), room: full[:size] + "x"}.sector())
		wantNoSlot(t, raw{mark: 0x53, size: uint16(size), room: full[:size] + strings.Repeat("\x00", 107-size) + "x"}.sector())
	}
}

func TestP5_2ReadOfOtherLengths(t *testing.T) {
	wantNoSlot(t, nil)
	whole := rawOf(api.Slot{Epoch: 1, Seq: 2, First: true, Data: "ab"}).sector()
	for size := range whole {
		wantNoSlot(t, whole[:size])
		wantNoSlot(t, whole[:size:size])
		if size != 124 {
			wantNoSlot(t, seal(bytes.Clone(whole[:size])))
		}
		wantNoSlot(t, make([]byte, size))
	}
	wantNoSlot(t, make([]byte, 128))
	wantNoSlot(t, bytes.Repeat([]byte{0xff}, 128))
	for _, more := range []int{1, 4, 128} {
		wantNoSlot(t, append(bytes.Clone(whole), make([]byte, more)...))
		wantNoSlot(t, append(bytes.Clone(whole), whole[:more]...))
		wantNoSlot(t, seal(append(bytes.Clone(whole[:124]), make([]byte, more)...)))
	}
}

func TestP5_2ReadOfTurnedBits(t *testing.T) {
	for _, s := range []api.Slot{{}, {Epoch: 2, Seq: 300, First: true, Data: "ab"}, {Epoch: 1<<31 - 1, Seq: 1 << 60, Last: true, Data: mixed(108, 3)}} {
		b := rawOf(s).sector()
		for bit := range 8 * len(b) {
			b[bit/8] ^= 1 << (bit % 8)
			wantNoSlot(t, b)
			b[bit/8] ^= 1 << (bit % 8)
		}
		wantRead(t, b, s)
	}
}

func TestP5_2MemoryIsOwn(t *testing.T) {
	s := api.Slot{Epoch: 1, Seq: 2, First: true, Data: "ab"}
	b, _ := slot.Bytes(s)
	kept := bytes.Clone(b)
	again, _ := slot.Bytes(s)
	clear(again[:cap(again)])
	if !bytes.Equal(b, kept) {
		t.Error("two answers share memory")
	}
	long := append(bytes.Clone(b), "behind"...)
	read, _ := slot.Read(long[:128])
	if !bytes.Equal(long[:128], kept) || string(long[128:]) != "behind" {
		t.Error("Read changed what was handed in, or what stands behind it")
	}
	clear(long)
	if read != s {
		t.Errorf("the slot hangs on the bytes it was read of: %+v", read)
	}
}

func TestP5_5SlotThereAndBack(t *testing.T) {
	seen := map[string]bool{}
	for _, s := range rightSlots() {
		b, err := slot.Bytes(s)
		if err != api.OK {
			t.Fatalf("Bytes(%+v): Err %d", s, err)
		}
		wantRead(t, b, s)
		seen[string(b)] = true
	}
	other := map[api.Slot]bool{}
	for _, s := range rightSlots() {
		other[s] = true
	}
	if len(seen) != len(other) {
		t.Errorf("%d slots have %d forms", len(other), len(seen))
	}
}
