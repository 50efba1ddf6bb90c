package tag_test

import (
	"bytes"
	"fmt"
	"hash/crc32"
	"math"
	"math/big"
	"slices"
	"strings"
	"testing"

	"ambry/api"
	"ambry/tag"
)

const prime = api.TagPrime

// mixed are so many bytes, by a short rule; of other seeds others.
func mixed(size int, seed uint32) []byte {
	b := make([]byte, size)
	for i := range b {
		seed = seed*1664525 + 1013904223
		b[i] = byte(seed >> 24)
	}
	return b
}

// rows are bytes of several kinds and lengths.
func rows() [][]byte {
	l := [][]byte{nil, []byte("123456789"), []byte("ab"), []byte("ba"), []byte("a\x00"), []byte("\x00a"), []byte("é")}
	for c := range 256 {
		l = append(l, []byte{byte(c)})
	}
	for _, size := range []int{2, 3, 4, 5, 8, 31, 32, 33, 128, 160, 255, 256, 257, 1000, 2560} {
		l = append(l, make([]byte, size), bytes.Repeat([]byte{0xff}, size), mixed(size, 1), mixed(size, 2))
	}
	return l
}

// rightTags are right tags at the edges, and some within.
func rightTags() []api.Tag {
	var l []api.Tag
	parts := []int{0, 1, 2, 15, 16, 255, 256, 65535, 65536, prime / 2, prime/2 + 1, 0xabcde, prime - 2, prime - 1}
	for _, re := range parts {
		for _, im := range parts {
			l = append(l, api.Tag{Re: re, Im: im})
		}
	}
	return l
}

// wrongTags are tags one part, or each, of which is outside.
func wrongTags() []api.Tag {
	var l []api.Tag
	for _, out := range []int{-1, -2, -prime, -prime + 1, prime, prime + 1, prime + 2, 1<<20 - 1, 1 << 20, 2 * prime, 1 << 32, 1<<32 + 1, math.MinInt, math.MaxInt} {
		for _, in := range []int{0, 1, prime - 1} {
			l = append(l, api.Tag{Re: out, Im: in}, api.Tag{Re: in, Im: out})
		}
		l = append(l, api.Tag{Re: out, Im: out}, api.Tag{Re: out, Im: -out})
	}
	return l
}

// long reckons a tag by whole numbers that are cut down at the end alone.
func long(b []byte) api.Tag {
	re, im := new(big.Int), new(big.Int)
	for _, c := range b {
		re, im = timesStep(re, im)
		re.Add(re, big.NewInt(int64(c)+1))
		im.Add(im, big.NewInt(256-int64(c)))
	}
	return cut(re, im)
}

// timesStep tells both parts of a number times 3 + 2i.
func timesStep(re, im *big.Int) (*big.Int, *big.Int) {
	two, three := big.NewInt(2), big.NewInt(3)
	left := new(big.Int).Sub(new(big.Int).Mul(re, three), new(big.Int).Mul(im, two))
	right := new(big.Int).Add(new(big.Int).Mul(re, two), new(big.Int).Mul(im, three))
	return left, right
}

// cut tells the tag of whole numbers: Mod answers what is left from 0 on.
func cut(re, im *big.Int) api.Tag {
	p := big.NewInt(prime)
	return api.Tag{Re: int(re.Mod(re, p).Int64()), Im: int(im.Mod(im, p).Int64())}
}

// join tells a tag that can be joined.
func join(t *testing.T, a, b api.Tag, n int) api.Tag {
	t.Helper()
	x, err := tag.Join(a, b, n)
	if err != api.OK {
		t.Fatalf("Join(%v, %v, %d): Err %d", a, b, n, err)
	}
	if tag.Check(x) != api.OK {
		t.Fatalf("Join(%v, %v, %d) = %v, which is not right", a, b, n, x)
	}
	return x
}

func TestP3_1Sum(t *testing.T) {
	rising, falling := make([]byte, 32), make([]byte, 32)
	for i := range 32 {
		rising[i], falling[i] = byte(i), byte(31-i)
	}
	cases := []struct {
		b    []byte
		want int
	}{
		{nil, 0},
		{[]byte{}, 0},
		{[]byte("123456789"), 0xe3069283},
		{[]byte("a"), 0xc1d04330},
		{[]byte("\x00"), 0x527d5351},
		{[]byte("\xff"), 0xff000000},
		{make([]byte, 32), 0x8a9136aa},
		{bytes.Repeat([]byte{0xff}, 32), 0x62a8ab43},
		{rising, 0x46dd794e},
		{falling, 0x113fdb5c},
	}
	for _, c := range cases {
		if got := tag.Sum(c.b); got != c.want {
			t.Errorf("Sum(%x) = %x, want %x", c.b, got, c.want)
		}
	}
}

func TestP3_1SumOfRows(t *testing.T) {
	table := crc32.MakeTable(crc32.Castagnoli)
	for _, b := range append(rows(), mixed(100000, 3)) {
		if got, want := tag.Sum(b), int(crc32.Checksum(b, table)); got != want {
			t.Errorf("Sum of %d bytes %.20x = %x, want %x", len(b), b, got, want)
		}
	}
}

func TestP3_1Of(t *testing.T) {
	cases := []struct {
		b    string
		want api.Tag
	}{
		{"", api.Tag{}},
		{"\x00", api.Tag{Re: 1, Im: 256}},
		{"\xff", api.Tag{Re: 256, Im: 1}},
		{"\x7f", api.Tag{Re: 128, Im: 129}},
		{"a", api.Tag{Re: 98, Im: 159}},
		{"ab", api.Tag{Re: 75, Im: 831}},
		{"\x00\x00", api.Tag{Re: prime - 508, Im: 1026}},
		{"\xff\xff", api.Tag{Re: 1022, Im: 516}},
	}
	for _, c := range cases {
		if got := tag.Of([]byte(c.b)); got != c.want {
			t.Errorf("Of(%x) = %v, want %v", c.b, got, c.want)
		}
	}
}

func TestP3_1OfRows(t *testing.T) {
	for _, b := range append(rows(), mixed(10000, 3)) {
		if got, want := tag.Of(b), long(b); got != want {
			t.Errorf("Of %d bytes %.20x = %v, want %v", len(b), b, got, want)
		}
	}
}

func TestP3_1ArgumentsStay(t *testing.T) {
	whole := mixed(40, 9)
	kept := slices.Clone(whole)
	tag.Sum(whole[:20])
	tag.Of(whole[:20])
	if !bytes.Equal(whole, kept) {
		t.Errorf("changed what was handed in: %x", whole)
	}
	if tag.Sum(whole[:20]) != tag.Sum(kept[:20:20]) || tag.Of(whole[:20]) != tag.Of(kept[:20:20]) {
		t.Error("the answer hangs on what stands behind the end")
	}
}

func TestP3_2Check(t *testing.T) {
	for _, x := range rightTags() {
		if err := tag.Check(x); err != api.OK {
			t.Errorf("Check(%v) = %d", x, err)
		}
	}
	for _, x := range wrongTags() {
		if err := tag.Check(x); err != api.ErrArg {
			t.Errorf("Check(%v) = %d, want %d", x, err, api.ErrArg)
		}
	}
}

func TestP3_2JoinByHand(t *testing.T) {
	cases := []struct {
		a, b api.Tag
		n    int
		want api.Tag
	}{
		{api.Tag{}, api.Tag{}, 0, api.Tag{}},
		{api.Tag{Re: 5, Im: 7}, api.Tag{Re: 11, Im: 13}, 0, api.Tag{Re: 16, Im: 20}},
		{api.Tag{Re: prime - 1, Im: prime - 1}, api.Tag{Re: prime - 1, Im: 1}, 0, api.Tag{Re: prime - 2, Im: 0}},
		{api.Tag{Re: 1}, api.Tag{}, 1, api.Tag{Re: 3, Im: 2}},
		{api.Tag{Re: 1}, api.Tag{}, 2, api.Tag{Re: 5, Im: 12}},
		{api.Tag{Re: 1}, api.Tag{}, 3, api.Tag{Re: prime - 9, Im: 46}},
		{api.Tag{Im: 1}, api.Tag{}, 1, api.Tag{Re: prime - 2, Im: 3}},
		{api.Tag{Re: 98, Im: 159}, api.Tag{Re: 99, Im: 158}, 1, api.Tag{Re: 75, Im: 831}},
		{api.Tag{}, api.Tag{Re: 3, Im: 4}, math.MaxInt, api.Tag{Re: 3, Im: 4}},
		{api.Tag{Im: 600000}, api.Tag{Re: 1200000 - prime, Im: 5}, 1, api.Tag{Re: 0, Im: 1800005 - prime}}, // -prime: nothing is left
		{api.Tag{Im: prime - 1}, api.Tag{}, 1, api.Tag{Re: 2, Im: prime - 3}},
	}
	for _, c := range cases {
		if got := join(t, c.a, c.b, c.n); got != c.want {
			t.Errorf("Join(%v, %v, %d) = %v, want %v", c.a, c.b, c.n, got, c.want)
		}
	}
}

func TestP3_2JoinPowers(t *testing.T) {
	one, b := api.Tag{Re: 1}, api.Tag{Re: prime - 7, Im: 99}
	re, im := big.NewInt(1), big.NewInt(0)
	for n := range 700 {
		plain := cut(new(big.Int).Set(re), new(big.Int).Set(im))
		if got := join(t, one, api.Tag{}, n); got != plain {
			t.Fatalf("Join(%v, 0, %d) = %v, want %v", one, n, got, plain)
		}
		want := api.Tag{Re: (plain.Re + b.Re) % prime, Im: (plain.Im + b.Im) % prime}
		if got := join(t, one, b, n); got != want {
			t.Fatalf("Join(%v, %v, %d) = %v, want %v", one, b, n, got, want)
		}
		re, im = timesStep(re, im)
	}
}

// 13, which both parts' squares of 3 + 2i make, is no multiple of the prime, which is one more than a multiple of 4: so its powers come round at the prime less 1.
func TestP3_2JoinGreatPowers(t *testing.T) {
	const round = prime - 1
	for _, x := range rightTags() {
		if got := join(t, x, api.Tag{}, round); got != x {
			t.Errorf("Join(%v, 0, %d) = %v", x, round, got)
		}
	}
	a, b := api.Tag{Re: prime - 1, Im: 12345}, api.Tag{Re: 77, Im: prime - 1}
	for _, n := range []int{round - 1, round + 1, 1 << 20, 1<<31 - 1, 1 << 32, 1<<53 + 1, 1 << 62, math.MaxInt - 1, math.MaxInt} {
		if got, want := join(t, a, b, n), join(t, a, b, n%round); got != want {
			t.Errorf("Join(%v, %v, %d) = %v, want %v", a, b, n, got, want)
		}
	}
	step := api.Tag{Re: 3, Im: 2}
	for n := range 63 {
		power := 1 << n
		if got, want := join(t, a, b, power), join(t, join(t, a, api.Tag{}, power-1), b, 1); got != want {
			t.Errorf("power %d: %v, want %v", power, got, want)
		}
		if got, want := join(t, api.Tag{Re: 1}, api.Tag{}, power), join(t, step, api.Tag{}, power-1); got != want {
			t.Errorf("power %d: %v, want %v", power, got, want)
		}
	}
}

func TestP3_2JoinRefused(t *testing.T) {
	refuse := func(a, b api.Tag, n int) {
		t.Helper()
		if x, err := tag.Join(a, b, n); x != (api.Tag{}) || err != api.ErrArg {
			t.Errorf("Join(%v, %v, %d) = %v, %d, want nothing, %d", a, b, n, x, err, api.ErrArg)
		}
	}
	good := api.Tag{Re: 3, Im: prime - 1}
	for _, x := range wrongTags() {
		for _, n := range []int{-1, 0, 1, 5, math.MaxInt, math.MinInt} {
			refuse(x, good, n)
			refuse(good, x, n)
			refuse(x, api.Tag{}, n)
			refuse(api.Tag{}, x, n)
			refuse(x, x, n)
		}
	}
	for _, n := range []int{-1, -2, -prime, math.MinInt + 1, math.MinInt} {
		refuse(good, good, n)
		refuse(api.Tag{}, api.Tag{}, n)
	}
}

func TestP3_3Text(t *testing.T) {
	cases := []struct {
		x    api.Tag
		want string
	}{
		{api.Tag{}, "0000000000"},
		{api.Tag{Re: 75, Im: 831}, "0004b0033f"},
		{api.Tag{Re: 1}, "0000100000"},
		{api.Tag{Im: 1}, "0000000001"},
		{api.Tag{Re: prime - 1, Im: prime - 1}, "ffffcffffc"},
		{api.Tag{Re: 0x12345, Im: 0x6789a}, "123456789a"},
		{api.Tag{Re: 0xbcdef, Im: 0xfedcb}, "bcdeffedcb"},
	}
	for _, c := range cases {
		if s, err := tag.Text(c.x); s != c.want || err != api.OK {
			t.Errorf("Text(%v) = %q, %d, want %q", c.x, s, err, c.want)
		}
		if x, err := tag.Parse(c.want); x != c.x || err != api.OK {
			t.Errorf("Parse(%q) = %v, %d, want %v", c.want, x, err, c.x)
		}
	}
	for _, x := range rightTags() {
		if s, err := tag.Text(x); s != fmt.Sprintf("%05x%05x", x.Re, x.Im) || err != api.OK {
			t.Errorf("Text(%v) = %q, %d", x, s, err)
		}
	}
}

func TestP3_3TextRefused(t *testing.T) {
	for _, x := range wrongTags() {
		if s, err := tag.Text(x); s != "" || err != api.ErrArg {
			t.Errorf("Text(%v) = %q, %d, want nothing, %d", x, s, err, api.ErrArg)
		}
	}
}

// wantNoTag looks at what Parse answers of a text that no right tag has.
func wantNoTag(t *testing.T, s string) {
	t.Helper()
	if x, err := tag.Parse(s); x != (api.Tag{}) || err != api.ErrFormat {
		t.Errorf("Parse(%.40q) = %v, %d, want nothing, %d", s, x, err, api.ErrFormat)
	}
}

func TestP3_3ParseLengths(t *testing.T) {
	for size := range 50 {
		if size != 10 {
			wantNoTag(t, strings.Repeat("0", size))
			wantNoTag(t, strings.Repeat("a", size))
		}
	}
	for _, s := range []string{"0004b0033f0", "00004b0033f", "0004b0033f\n", " 0004b0033f", "4b33f", "4b,33f", strings.Repeat("0", 1<<20)} {
		wantNoTag(t, s)
	}
}

func TestP3_3ParseBytes(t *testing.T) {
	for at := range 10 {
		for c := range 256 {
			b := []byte("0123456789")
			b[at] = byte(c)
			x, err := tag.Parse(string(b))
			if !strings.Contains("0123456789abcdef", string(rune(c))) {
				wantNoTag(t, string(b))
			} else if s, _ := tag.Text(x); s != string(b) || err != api.OK {
				t.Errorf("Parse(%q) = %v, %d", b, x, err)
			}
		}
	}
}

func TestP3_3ParseNoTags(t *testing.T) {
	for _, part := range []string{"ffffd", "ffffe", "fffff", "FFFFC", "fFffc", "0004B", "+0001", "-0001", "-0000", "0x001", "0_001", " 0001", "0001 ", "0001.", "1e+02", "ghijk", "éé0", "００0", "\x00\x00\x00\x00\x00"} {
		wantNoTag(t, part+"00000")
		wantNoTag(t, "00000"+part)
		wantNoTag(t, part+part)
		wantNoTag(t, part+"ffffc")
	}
}

// differences are what each bit of a row of bytes, the lowest of each byte first, turns of their sum.
func differences(size int, seed uint32) []uint32 {
	b := mixed(size, seed)
	plain := tag.Sum(b)
	l := make([]uint32, 8*size)
	for i := range l {
		b[i/8] ^= 1 << (i % 8)
		l[i] = uint32(tag.Sum(b) ^ plain)
		b[i/8] ^= 1 << (i % 8)
	}
	return l
}

// independent tells whether no row of some of these, turned over one another, is 0.
func independent(l []uint32) bool {
	var lead [32]uint32
	for _, x := range l {
		for bit := 31; bit >= 0 && x != 0; bit-- {
			if x>>bit&1 == 0 {
				continue
			}
			if lead[bit] == 0 {
				lead[bit] = x
				break
			}
			x ^= lead[bit]
		}
		if x == 0 {
			return false
		}
	}
	return true
}

// What several bits turn of a sum is what each turns, one over the other (the next test holds sums against that): so no bits of a row are missed, if those of the row are independent.
func TestP3_4AllBitsOfARow(t *testing.T) {
	for _, size := range []int{1, 2, 3, 4, 5, 16, 128, 300} {
		diffs := differences(size, uint32(size))
		if !slices.Equal(diffs, differences(size, 99)) {
			t.Errorf("%d bytes: what a bit turns hangs on the other bits", size)
		}
		for i := range diffs {
			if row := diffs[i:min(i+32, len(diffs))]; !independent(row) {
				t.Errorf("%d bytes: bits from %d on can be turned, and the sum stays", size, i)
			}
		}
	}
}

// turn turns the bits of pattern, the lowest one at bit at, as far as there are bytes.
func turn(b []byte, at int, pattern uint32) []byte {
	own := slices.Clone(b)
	for i := range 32 {
		if pattern>>i&1 == 1 && at+i < 8*len(own) {
			own[(at+i)/8] ^= 1 << ((at + i) % 8)
		}
	}
	return own
}

func TestP3_4TurnedBits(t *testing.T) {
	patterns := []uint32{1, 3, 5, 0x80000001, 0xffffffff, 0x05ec76f1, 0xdb710641, 0xaaaaaaab, 0xffff0001}
	state := uint32(5)
	for range 300 {
		state = state*1664525 + 1013904223
		patterns = append(patterns, state|1)
	}
	for _, size := range []int{1, 4, 5, 128} {
		b := mixed(size, 4)
		diffs := differences(size, 4)
		for at := range 8 * size {
			for _, pattern := range patterns {
				var want uint32
				for i, d := range diffs[at:min(at+32, len(diffs))] {
					want ^= d * (pattern >> i & 1)
				}
				got := uint32(tag.Sum(turn(b, at, pattern)) ^ tag.Sum(b))
				if got == 0 || got != want {
					t.Fatalf("%d bytes, bits %x from %d on: the sums differ by %x, want %x", size, pattern, at, got, want)
				}
			}
		}
	}
}

func TestP3_5Joined(t *testing.T) {
	for _, whole := range [][]byte{nil, []byte("a"), []byte("ab"), mixed(160, 1), make([]byte, 200), bytes.Repeat([]byte{0xff}, 200), mixed(2560, 6)} {
		for at := 0; at <= len(whole); at += 1 + len(whole)/300 {
			a, b := whole[:at], whole[at:]
			if got, want := join(t, tag.Of(a), tag.Of(b), len(b)), tag.Of(whole); got != want {
				t.Errorf("%d bytes joined at %d: %v, want %v", len(whole), at, got, want)
			}
		}
	}
	a, b := mixed(3, 1), mixed(1<<20, 2)
	if got, want := join(t, tag.Of(a), tag.Of(b), len(b)), tag.Of(append(a, b...)); got != want {
		t.Errorf("a long one joined: %v, want %v", got, want)
	}
}

// part is a part's tag, and how many bytes it is.
type part struct {
	x api.Tag
	n int
}

// put joins two parts, as they stand.
func put(t *testing.T, a, b part) part {
	t.Helper()
	return part{join(t, a.x, b.x, b.n), a.n + b.n}
}

func TestP3_6InAnyOrder(t *testing.T) {
	tags := rightTags()
	sizes := []int{0, 1, 2, 3, 160, 2560, prime - 2, prime - 1, prime, 1 << 31, 1 << 59}
	for i := range 3000 {
		var l []part
		for j := range 2 + i%6 {
			k := i*31 + j*j*17
			l = append(l, part{tags[k%len(tags)], sizes[k%len(sizes)]})
		}
		left, right := l[0], l[len(l)-1]
		for j := 1; j < len(l); j++ {
			left = put(t, left, l[j])
			right = put(t, l[len(l)-1-j], right)
		}
		if left != right {
			t.Fatalf("%v: joined from the left %v, from the right %v", l, left, right)
		}
	}
}

func TestP3_6PartsOfABody(t *testing.T) {
	var all []byte
	var l []part
	for i := range 16 {
		b := mixed(i*i%160, uint32(i))
		all, l = append(all, b...), append(l, part{tag.Of(b), len(b)})
	}
	left, right := part{}, part{}
	for i := range l {
		left = put(t, left, l[i])
		right = put(t, l[len(l)-1-i], right)
	}
	if want := tag.Of(all); left.x != want || right.x != want {
		t.Errorf("from the left %v, from the right %v, want %v", left, right, want)
	}
}

func TestP3_7ThereAndBack(t *testing.T) {
	tags := rightTags()
	for n := 0; n < prime; n += 3 {
		tags = append(tags, api.Tag{Re: n, Im: prime - 1 - n})
	}
	for _, x := range tags {
		s, err := tag.Text(x)
		if err != api.OK {
			t.Fatalf("Text(%v): Err %d", x, err)
		}
		if got, err := tag.Parse(s); got != x || err != api.OK {
			t.Fatalf("Parse(%q) = %v, %d, want %v", s, got, err, x)
		}
	}
}

func TestP3_7JustThisText(t *testing.T) {
	taken, chars := 0, "0129AaFfgx+- _"
	texts := []string{""}
	for range 5 {
		var longer []string
		for _, s := range texts {
			for i := range len(chars) {
				longer = append(longer, s+chars[i:i+1])
			}
		}
		texts = longer
	}
	for _, half := range texts {
		for _, s := range []string{half + "00fa9", "9af00" + half} {
			x, err := tag.Parse(s)
			if err != api.OK {
				wantNoTag(t, s)
				continue
			}
			taken++
			if got, err := tag.Text(x); got != s || err != api.OK {
				t.Fatalf("Parse(%q) = %v, whose text is %q", s, x, got)
			}
		}
	}
	if want := 2 * (6*6*6*6*6 - 1); taken != want {
		t.Errorf("Parse takes %d of these texts, want %d", taken, want)
	}
}
