package adrs

import (
	"math"
	"math/big"
	"slices"
	"strconv"
	"strings"
	"testing"

	"sigil/api"
	"sigil/octets"
)

// kinds are all sets, as the chapter lists them: kind, Family, N, H, D, A, K.
var kinds = [][7]int{
	{1, 2, 16, 63, 7, 12, 14},
	{2, 2, 16, 66, 22, 6, 33},
	{3, 2, 24, 63, 7, 14, 17},
	{4, 2, 24, 66, 22, 8, 33},
	{5, 2, 32, 64, 8, 14, 22},
	{6, 2, 32, 68, 17, 9, 35},
	{7, 1, 16, 63, 7, 12, 14},
	{8, 1, 16, 66, 22, 6, 33},
	{9, 1, 24, 63, 7, 14, 17},
	{10, 1, 24, 66, 22, 8, 33},
	{11, 1, 32, 64, 8, 14, 22},
	{12, 1, 32, 68, 17, 9, 35},
	{13, 1, 4, 1, 1, 2, 2},
	{14, 2, 4, 1, 1, 2, 2},
}

// forest returns the parameters of a row of kinds.
func forest(c [7]int) api.Forest {
	return api.Forest{Family: c[1], N: c[2], H: c[3], D: c[4], A: c[5], K: c[6]}
}

// noise returns the number n of a sequence without a pattern.
func noise(n int) uint64 {
	x := uint64(n)*0x9e3779b97f4a7c15 + 0xd1b54a32d192ed03
	x = (x ^ x>>30) * 0xbf58476d1ce4e5b9
	x = (x ^ x>>27) * 0x94d049bb133111eb
	return x ^ x>>31
}

// noiseBytes returns bytes without a pattern.
func noiseBytes(n, count int) string {
	b := make([]byte, count)
	for i := range b {
		b[i] = byte(noise(n*70000 + i))
	}
	return string(b)
}

// far returns ints that are valid for nothing, some of them with least significant bits that would be.
func far() []int {
	return []int{-1, -2, -4, 71, 100, 256, 1<<32 + 1, 1<<32 + 2, 1<<32 + 4, 1<<32 + 13, -1 << 32, api.MaxInt, math.MaxInt, math.MaxInt - 1, math.MinInt, math.MinInt + 1, math.MinInt + 4}
}

// P15.1

func TestSetOfEachKind(t *testing.T) {
	for _, c := range kinds {
		if p, e := Set(c[0]); p != forest(c) || e != api.OK {
			t.Errorf("Set(%d) = %v, %d; want %v, 0", c[0], p, e, forest(c))
		}
	}
}

func TestSetOfOtherKinds(t *testing.T) {
	for _, kind := range append(far(), 0, 15, 16, 20, 64) {
		if p, e := Set(kind); p != (api.Forest{}) || e != api.ErrNone {
			t.Errorf("Set(%d) = %v, %d; want zeros, %d", kind, p, e, api.ErrNone)
		}
	}
}

// P15.2

func TestSetsAreRight(t *testing.T) {
	for _, c := range kinds {
		if !Right(forest(c)) {
			t.Errorf("the set %d is not right", c[0])
		}
	}
	if Right(api.Forest{}) {
		t.Error("zeros are right")
	}
}

func TestRightOfEachParameter(t *testing.T) {
	cases := []struct {
		name      string
		low, high int
		put       func(p *api.Forest, n int)
	}{
		{"Family", 1, 2, func(p *api.Forest, n int) { p.Family = n }},
		{"N", 2, 32, func(p *api.Forest, n int) { p.N = n }},
		{"A", 1, 14, func(p *api.Forest, n int) { p.A = n }},
		{"K", 1, 35, func(p *api.Forest, n int) { p.K = n }},
		{"H, with D 1", 1, 9, func(p *api.Forest, n int) { p.H, p.D = n, 1 }},
		{"D, and an H of as much", 1, 22, func(p *api.Forest, n int) { p.H, p.D = n, n }},
	}
	for _, c := range cases {
		tried := far()
		for n := range 71 {
			tried = append(tried, n)
		}
		for _, set := range kinds {
			for _, n := range tried {
				p := forest(set)
				c.put(&p, n)
				if got, want := Right(p), c.low <= n && n <= c.high; got != want {
					t.Errorf("Right of the set %d with %s %d = %t; want %t", set[0], c.name, n, got, want)
				}
			}
		}
	}
}

// heights returns the valid pairs of H and D: D layers of trees of the same height.
func heights() map[[2]int]int {
	good := map[[2]int]int{}
	for d := 1; d <= 22; d++ {
		for height := 1; height <= 9 && d*height <= 68; height++ {
			good[[2]int{d * height, d}] = height
		}
	}
	return good
}

func TestRightOfHeightsAndLayers(t *testing.T) {
	tried := far()
	for n := range 71 {
		tried = append(tried, n, -n)
	}
	good := heights()
	for _, h := range tried {
		for _, d := range tried {
			p := forest(kinds[0])
			p.H, p.D = h, d
			if got, want := Right(p), good[[2]int{h, d}] > 0; got != want {
				t.Errorf("Right of H %d, D %d = %t; want %t", h, d, got, want)
			}
		}
	}
}

// P15.3

func TestLengthsOfEachKind(t *testing.T) {
	want := [][3]int{{32, 3, 30}, {32, 3, 34}, {48, 3, 39}, {48, 3, 42}, {64, 3, 47}, {64, 3, 49}}
	want = append(append(want, want...), [3]int{8, 2, 2}, [3]int{8, 2, 2})
	for i, c := range kinds {
		if chains, sums, size := Lengths(forest(c)); [3]int{chains, sums, size} != want[i] {
			t.Errorf("Lengths of the set %d = %d, %d, %d; want %v", c[0], chains, sums, size, want[i])
		}
	}
}

func TestLengthsOfEachN(t *testing.T) {
	for n := 2; n <= 32; n++ {
		p := forest(kinds[12])
		p.N = n
		want := len(strconv.FormatInt(int64(15*2*n), 16))
		if chains, sums, size := Lengths(p); chains != 2*n || sums != want || size != 2 {
			t.Errorf("Lengths with N %d = %d, %d, %d; want %d, %d, 2", n, chains, sums, size, 2*n, want)
		}
	}
}

// bytesOf returns how many bytes so many bits fill, by counting them.
func bytesOf(count int) int {
	n := 0
	for ; count > 0; count -= 8 {
		n++
	}
	return n
}

func TestLengthsOfAllHeights(t *testing.T) {
	for at, height := range heights() {
		for a := 1; a <= 14; a++ {
			for k := 1; k <= 35; k++ {
				p := api.Forest{Family: 1 + k%2, N: 2 + (a*k)%31, H: at[0], D: at[1], A: a, K: k}
				want := bytesOf(k*a) + bytesOf(at[0]-height) + bytesOf(height)
				if _, _, size := Lengths(p); size != want {
					t.Fatalf("Lengths of %v: %d bytes of a digest; want %d", p, size, want)
				}
			}
		}
	}
}

func TestLengthsWithoutAValidSet(t *testing.T) {
	all := []api.Forest{{}}
	for _, c := range kinds {
		for at := 1; at < len(c); at++ {
			for _, n := range append(far(), 0) {
				wrong := c
				wrong[at] = n
				all = append(all, forest(wrong))
			}
		}
		all = append(all, api.Forest{Family: 3, N: c[2], H: c[3], D: c[4], A: c[5], K: c[6]}, api.Forest{Family: c[1], N: 33, H: c[3], D: c[4], A: c[5], K: c[6]}, api.Forest{Family: c[1], N: c[2], H: 10, D: 1, A: c[5], K: c[6]}, api.Forest{Family: c[1], N: c[2], H: 7, D: 2, A: c[5], K: c[6]})
	}
	for _, p := range all {
		if chains, sums, size := Lengths(p); chains != 0 || sums != 0 || size != 0 {
			t.Errorf("Lengths of %v = %d, %d, %d; want zeros", p, chains, sums, size)
		}
	}
}

// P15.4, P15.5

func TestAddressesAsWrittenOut(t *testing.T) {
	cases := []struct {
		a           api.Adrs
		long, short string
	}{
		{api.Adrs{}, strings.Repeat("\x00", 32), strings.Repeat("\x00", 22)},
		{api.Adrs{Layer: 1, Tree: 2, Kind: 3, Pair: 4, High: 5, Low: 6},
			"\x00\x00\x00\x01" + "\x00\x00\x00\x00\x00\x00\x00\x00\x00\x00\x00\x02" + "\x00\x00\x00\x03" + "\x00\x00\x00\x04" + "\x00\x00\x00\x05" + "\x00\x00\x00\x06",
			"\x01" + "\x00\x00\x00\x00\x00\x00\x00\x02" + "\x03" + "\x00\x00\x00\x04" + "\x00\x00\x00\x05" + "\x00\x00\x00\x06"},
		{api.Adrs{Layer: 0x01020304, Tree: 0x1112131415161718, Kind: 0x21222324, Pair: 0x31323334, High: 0x41424344, Low: 0x51525354},
			"\x01\x02\x03\x04" + "\x00\x00\x00\x00\x11\x12\x13\x14\x15\x16\x17\x18" + "\x21\x22\x23\x24" + "\x31\x32\x33\x34" + "\x41\x42\x43\x44" + "\x51\x52\x53\x54",
			"\x04" + "\x11\x12\x13\x14\x15\x16\x17\x18" + "\x24" + "\x31\x32\x33\x34" + "\x41\x42\x43\x44" + "\x51\x52\x53\x54"},
		{api.Adrs{Layer: 0xa1a2a3a401020304, Tree: 1 << 63, Kind: 0x6162636421222324, Pair: 0xb1b2b3b431323334, High: 0xc1c2c3c400000000, Low: 0xd1d2d3d400000100},
			"\x01\x02\x03\x04" + "\x00\x00\x00\x00\x80\x00\x00\x00\x00\x00\x00\x00" + "\x21\x22\x23\x24" + "\x31\x32\x33\x34" + "\x00\x00\x00\x00" + "\x00\x00\x01\x00",
			"\x04" + "\x80\x00\x00\x00\x00\x00\x00\x00" + "\x24" + "\x31\x32\x33\x34" + "\x00\x00\x00\x00" + "\x00\x00\x01\x00"},
		{api.Adrs{Kind: -1}, strings.Repeat("\x00", 16) + "\xff\xff\xff\xff" + strings.Repeat("\x00", 12), strings.Repeat("\x00", 9) + "\xff" + strings.Repeat("\x00", 12)},
		{api.Adrs{Kind: -256}, strings.Repeat("\x00", 16) + "\xff\xff\xff\x00" + strings.Repeat("\x00", 12), strings.Repeat("\x00", 22)},
	}
	for _, c := range cases {
		if got := Bytes(c.a); got != c.long {
			t.Errorf("Bytes(%v) = %x; want %x", c.a, got, c.long)
		}
		if got := Short(c.a); got != c.short {
			t.Errorf("Short(%v) = %x; want %x", c.a, got, c.short)
		}
	}
}

// written returns the numbers of an address in so many bytes each, by octets.Fixed.
func written(a api.Adrs, layer, tree, kind int) string {
	return octets.Fixed(a.Layer, layer) + octets.Fixed(a.Tree, tree) + octets.Fixed(uint64(a.Kind), kind) + octets.Fixed(a.Pair, 4) + octets.Fixed(a.High, 4) + octets.Fixed(a.Low, 4)
}

// single returns the address with x as its number n, and 0 as the others.
func single(n int, x uint64) api.Adrs {
	var v [6]uint64
	v[n] = x
	return full(v)
}

// full returns the address with these numbers.
func full(v [6]uint64) api.Adrs {
	return api.Adrs{Layer: v[0], Tree: v[1], Kind: int(v[2]), Pair: v[3], High: v[4], Low: v[5]}
}

// addresses returns addresses with numbers of all sizes: single ones, and together.
func addresses() []api.Adrs {
	var all []api.Adrs
	for n := range 6 {
		for bit := range 64 {
			all = append(all, single(n, 1<<bit), single(n, 1<<bit-1), single(n, noise(n*64+bit)>>bit))
		}
		all = append(all, single(n, math.MaxUint64))
	}
	for i := range 500 {
		var v [6]uint64
		for n := range v {
			v[n] = noise(i*6+n) >> (noise(i*6+n+1) % 65)
		}
		all = append(all, full(v))
	}
	return all
}

func TestAddressesAsOctetsWritesThem(t *testing.T) {
	for _, a := range addresses() {
		if got, want := Bytes(a), written(a, 4, 12, 4); got != want {
			t.Errorf("Bytes(%v) = %x; want %x", a, got, want)
		}
		if got, want := Short(a), written(a, 1, 8, 1); got != want {
			t.Errorf("Short(%v) = %x; want %x", a, got, want)
		}
	}
}

// P15.6

func TestDigitsOfKnownBytes(t *testing.T) {
	cases := []struct {
		s           string
		width, many int
		want        []int
	}{
		{"\x12", 4, 2, []int{1, 2}},
		{"\x12\x34", 4, 5, []int{1, 2, 3, 4, 0}},
		{"\x12\x34", 4, 3, []int{1, 2, 3}},
		{"\xff", 6, 2, []int{63, 48}},
		{"\xff", 6, 3, []int{63, 48, 0}},
		{"\x80", 1, 9, []int{1, 0, 0, 0, 0, 0, 0, 0, 0}},
		{"\x05", 1, 8, []int{0, 0, 0, 0, 0, 1, 0, 1}},
		{"\x12\x34\x56", 24, 1, []int{0x123456}},
		{"\x12\x34\x56\x78", 24, 2, []int{0x123456, 0x780000}},
		{"\xff\xff\xff\xff\xff\xff", 24, 2, []int{0xffffff, 0xffffff}},
		{"\x12\x34\x56", 12, 2, []int{0x123, 0x456}},
		{"\x80\x01\x80", 14, 2, []int{0x2000, 0x600 << 2}},
		{"\xff\x00\xff", 8, 3, []int{255, 0, 255}},
		{"\xff", 8, 1, []int{255}},
		{"\xff", 9, 1, []int{0x1fe}},
		{"", 4, 3, []int{0, 0, 0}},
		{"", 24, 1, []int{0}},
	}
	for _, c := range cases {
		if got := Digits(c.s, c.width, c.many); !slices.Equal(got, c.want) {
			t.Errorf("Digits(%x, %d, %d) = %x; want %x", c.s, c.width, c.many, got, c.want)
		}
	}
}

// digits returns what Digits is to return, by another way: from the text of all bits.
func digits(s string, width, many int) []int {
	var text strings.Builder
	for i := range len(s) {
		b := strconv.FormatInt(int64(s[i]), 2)
		text.WriteString(strings.Repeat("0", 8-len(b)) + b)
	}
	all := text.String() + strings.Repeat("0", width*many)
	l := make([]int, many)
	for i := range l {
		n, _ := strconv.ParseInt(all[i*width:(i+1)*width], 2, 64)
		l[i] = int(n)
	}
	return l
}

func TestDigitsOfEachWidth(t *testing.T) {
	for width := 1; width <= 24; width++ {
		for _, size := range []int{0, 1, 2, 3, 7, 24, 60} {
			for many := range 70 {
				s := noiseBytes(width*70+many, size)
				if got, want := Digits(s, width, many), digits(s, width, many); !slices.Equal(got, want) {
					t.Fatalf("Digits(%x, %d, %d) = %v; want %v", s, width, many, got, want)
				}
			}
		}
	}
}

func TestDigitsOfManyBits(t *testing.T) {
	for _, width := range []int{1, 4, 9, 14, 23, 24} {
		for _, size := range []int{0, 5, 50000*width/8 - 1, 50000*width/8 + 1, 160000} {
			s := noiseBytes(width, size)
			for _, many := range []int{49999, 50000} {
				if got := Digits(s, width, many); !slices.Equal(got, digits(s, width, many)) {
					t.Errorf("Digits of %d bytes, width %d, many %d, differs", size, width, many)
				}
			}
		}
	}
}

func TestDigitsWithoutAValidWidth(t *testing.T) {
	for _, width := range append(far(), 0, 25, 26, 32, 64, 1<<32+24) {
		for _, many := range []int{0, 1, 2, 50000, 50001} {
			if got := Digits("abcdefgh", width, many); len(got) != 0 {
				t.Errorf("Digits with width %d, many %d: %d numbers", width, many, len(got))
			}
		}
	}
}

func TestDigitsWithoutAValidMany(t *testing.T) {
	for _, many := range []int{-1, -2, -256, 50001, 50002, 100000, 1<<32 + 1, api.MaxInt, math.MaxInt, math.MinInt, math.MinInt + 1} {
		for _, width := range []int{1, 4, 24, 25, 0} {
			if got := Digits("abcdefgh", width, many); len(got) != 0 {
				t.Errorf("Digits with width %d, many %d: %d numbers", width, many, len(got))
			}
		}
	}
}

func TestNoDigitsAreNone(t *testing.T) {
	for width := 1; width <= 24; width++ {
		if got := Digits("ab", width, 0); len(got) != 0 {
			t.Errorf("Digits with width %d, many 0 = %v", width, got)
		}
	}
}

// P15.7

// near returns addresses whose numbers are below 2^32, with Layer and Kind below 256 and Tree below 2^64, many of them with a number in common, and each of them twice.
func near() []api.Adrs {
	ends := [6]uint64{255, math.MaxUint64, 255, math.MaxUint32, math.MaxUint32, math.MaxUint32}
	some := [6]uint64{1, 0x100, 6, 1, 0x100, 0x10000}
	var all []api.Adrs
	for chosen := range 729 {
		var v [6]uint64
		for n, rest := 0, chosen; n < 6; n, rest = n+1, rest/3 {
			v[n] = [3]uint64{0, some[n], ends[n]}[rest%3]
		}
		all = append(all, full(v))
	}
	for n, end := range ends {
		for bit := range 64 {
			all = append(all, single(n, 1<<bit&end), single(n, end>>bit))
		}
	}
	return append(all, all...)
}

func TestEqualAddressesHaveEqualBytes(t *testing.T) {
	all := near()
	long, short := make([]string, len(all)), make([]string, len(all))
	for i, a := range all {
		long[i], short[i] = Bytes(a), Short(a)
	}
	for i, a := range all {
		for k, b := range all {
			if (a == b) != (long[i] == long[k]) || (a == b) != (short[i] == short[k]) {
				t.Fatalf("%v and %v are equal: %t; their Bytes: %t; their Short: %t", a, b, a == b, long[i] == long[k], short[i] == short[k])
			}
		}
	}
}

// P15.8

func TestDigitsAreTheBitsOfTheString(t *testing.T) {
	for width := 1; width <= 24; width++ {
		for size := range 50 {
			s := noiseBytes(width, size)
			many := (size*8 + width - 1) / width
			got, want := new(big.Int), new(big.Int).SetBytes([]byte(s))
			for _, d := range Digits(s, width, many) {
				if d < 0 || d >= 1<<width {
					t.Fatalf("a digit of width %d is %d", width, d)
				}
				got.Or(got.Lsh(got, uint(width)), big.NewInt(int64(d)))
			}
			if want.Lsh(want, uint(many*width-size*8)); got.Cmp(want) != 0 {
				t.Errorf("the digits of %x of width %d are %x; want %x", s, width, got, want)
			}
		}
	}
}

// R3

func TestResultsAreNewMemory(t *testing.T) {
	first := Digits("\x12\x34", 4, 4)
	second := Digits("\x12\x34", 4, 4)
	clear(first)
	if !slices.Equal(second, []int{1, 2, 3, 4}) || !slices.Equal(Digits("\x12\x34", 4, 4), second) {
		t.Error("two results of Digits share memory")
	}
}
