package bits

import (
	"math"
	"math/big"
	"slices"
	"strings"
	"testing"

	"sigil/api"
)

const (
	prime = 8380417
	half  = 4190208 // of the prime, rounded down
)

// mosts returns valid greatest coefficients: those about powers of two, and those of lattice signatures.
func mosts() []int {
	all := []int{1, 2, 3, 5, 6, 10, 43, 1000, prime - 2, prime - 1}
	for n := 4; n < prime; n *= 2 {
		all = append(all, n-1, n, n+1)
	}
	return all
}

// wrongMosts returns greatest coefficients that are not valid.
func wrongMosts() []int {
	return []int{0, -1, -3, -prime, prime, prime + 1, 1<<23 - 1, 1 << 23, 1 << 32, 1<<32 + 3, api.MaxInt, math.MaxInt, math.MinInt, math.MinInt + 3}
}

// ends returns valid values of low and high.
func ends() [][2]int {
	return [][2]int{{0, 1}, {1, 1}, {0, 2}, {2, 1}, {2, 2}, {4, 4}, {4095, 4096}, {131071, 131072}, {524287, 524288}, {7, 1000}, {1000, 7}, {0, half - 1}, {half - 1, 1}, {half - 1, half - 1}}
}

// wrongEnds returns values of low and high of which one is not valid, or both are not.
func wrongEnds() [][2]int {
	return [][2]int{{-1, 1}, {0, 0}, {2, 0}, {0, -1}, {-1, 5}, {half, 1}, {0, half}, {half, half}, {prime, 1}, {1, prime}, {math.MinInt, 1}, {1, math.MinInt}, {math.MaxInt, 1}, {1, math.MaxInt}, {math.MaxInt, math.MaxInt}, {math.MaxInt, math.MinInt}, {1<<32 + 2, 2}, {2, 1<<32 + 2}}
}

// noise returns the number n of a sequence without a pattern, from all ints.
func noise(n int) int {
	x := uint64(n)*0x9e3779b97f4a7c15 + 0xd1b54a32d192ed03
	x = (x ^ x>>30) * 0xbf58476d1ce4e5b9
	x = (x ^ x>>27) * 0x94d049bb133111eb
	return int(x ^ x>>31)
}

// below returns the number n of a sequence without a pattern, from 0 to m - 1.
func below(n, m int) int {
	return int(uint(noise(n)) % uint(m))
}

// noiseBytes returns bytes without a pattern.
func noiseBytes(n, count int) string {
	b := make([]byte, count)
	for i := range b {
		b[i] = byte(noise(n*5000 + i))
	}
	return string(b)
}

// full returns a polynomial with the same coefficient everywhere.
func full(x int) api.Poly {
	var p api.Poly
	for i := range p {
		p[i] = x
	}
	return p
}

// polys returns polynomials with coefficients from low to high.
func polys(low, high int) []api.Poly {
	all := []api.Poly{full(low), full(high)}
	var mixed, turns api.Poly
	for n := range 4 {
		for i := range mixed {
			mixed[i] = low + below(n*256+i, high-low+1)
		}
		all = append(all, mixed)
	}
	for i := range turns {
		turns[i] = low
		if i%3 == 0 {
			turns[i] = high
		}
	}
	return append(all, turns)
}

// width returns the number of bits of most, by halving it.
func width(most int) int {
	n := 0
	for ; most > 0; most /= 2 {
		n++
	}
	return n
}

// aboves returns the least and the greatest number above most that has no more bits than it; none if there is none.
func aboves(most int) []int {
	last := 1<<width(most) - 1
	if last == most {
		return nil
	}
	return []int{most + 1, last}
}

// packed returns the bytes of the coefficients in so many bits each, by another way: as those of one large number.
func packed(p api.Poly, wide int) string {
	all := new(big.Int)
	for i := 255; i >= 0; i-- {
		all.Lsh(all, uint(wide))
		all.Or(all, big.NewInt(int64(p[i])))
	}
	b := all.FillBytes(make([]byte, 32*wide))
	slices.Reverse(b)
	return string(b)
}

// modulo returns the number from 0 to the prime - 1 that is congruent to x.
func modulo(x int) int {
	return int(new(big.Int).Mod(big.NewInt(int64(x)), big.NewInt(prime)).Int64())
}

// each returns the results of f for the coefficients of p.
func each(p api.Poly, f func(x int) int) api.Poly {
	for i, x := range p {
		p[i] = f(x)
	}
	return p
}

// begins reports if s is not bytes that begin like head and have as many more, all 0, as there are to be.
func begins(t *testing.T, what, s string, e api.Errno, head string, count int) {
	t.Helper()
	if want := head + strings.Repeat("\x00", count-len(head)); s != want || e != api.OK {
		t.Errorf("%s = %x, %d; want %x, 0", what, s, e, want)
	}
}

// refused reports if s and e are not no bytes and the error.
func refused(t *testing.T, what, s string, e, want api.Errno) {
	t.Helper()
	if s != "" || e != want {
		t.Errorf("%s = %x, %d; want no bytes, %d", what, s, e, want)
	}
}

// same reports if p and e are not the polynomial and no error.
func same(t *testing.T, what string, p api.Poly, e api.Errno, want api.Poly) {
	t.Helper()
	if p != want || e != api.OK {
		t.Errorf("%s = %v, %d; want %v, 0", what, p, e, want)
	}
}

// rejected reports if p and e are not the zero polynomial and the error.
func rejected(t *testing.T, what string, p api.Poly, e, want api.Errno) {
	t.Helper()
	if p != (api.Poly{}) || e != want {
		t.Errorf("%s = %v, %d; want zeros, %d", what, p, e, want)
	}
}

// P10.1

func TestLongOfKnownNumbers(t *testing.T) {
	cases := []struct{ n, want int }{
		{0, 0}, {1, 1}, {2, 2}, {3, 2}, {4, 3}, {7, 3}, {8, 4}, {15, 4}, {16, 5}, {43, 6}, {255, 8}, {256, 9}, {1023, 10}, {1024, 11},
		{8191, 13}, {262143, 18}, {1048575, 20}, {prime - 1, 23}, {1<<23 - 1, 23}, {1 << 23, 24}, {1<<32 - 1, 32}, {1 << 32, 33},
		{api.MaxInt, 51}, {1 << 62, 63}, {math.MaxInt, 63},
		{-1, 0}, {-2, 0}, {-3, 0}, {-256, 0}, {-1 << 32, 0}, {math.MinInt, 0}, {math.MinInt + 1, 0},
	}
	for _, c := range cases {
		if got := Long(c.n); got != c.want {
			t.Errorf("Long(%d) = %d; want %d", c.n, got, c.want)
		}
	}
}

func TestLongOfPowersOfTwo(t *testing.T) {
	for n := range 62 {
		if x := 1 << n; Long(x) != n+1 || Long(x-1) != n || Long(-x) != 0 {
			t.Errorf("Long of %d, of that minus 1, and of the negative = %d, %d, %d; want %d, %d, 0", x, Long(x), Long(x-1), Long(-x), n+1, n)
		}
	}
}

func TestNumbersAreStoredFromTheLeastBit(t *testing.T) {
	cases := []struct {
		p    api.Poly
		most int
		head string
	}{
		{api.Poly{1}, 1, "\x01"},
		{api.Poly{0, 1}, 1, "\x02"},
		{api.Poly{7: 1, 8: 1}, 1, "\x80\x01"},
		{api.Poly{1, 2}, 3, "\x09"},
		{api.Poly{1, 2, 3}, 3, "\x39"},
		{api.Poly{0, 1, 2, 3, 4, 5, 6, 7}, 7, "\x88\xc6\xfa"},
		{api.Poly{0x12, 0x34}, 255, "\x12\x34"},
		{api.Poly{0x201, 0x3ff}, 1023, "\x01\xfe\x0f"},
		{api.Poly{0x123456}, prime - 1, "\x56\x34\x12"},
		{api.Poly{0, 1}, prime - 1, "\x00\x00\x80"},
		{api.Poly{0, 3}, prime - 1, "\x00\x00\x80\x01"},
	}
	for _, c := range cases {
		s, e := Pack(c.p, c.most)
		begins(t, "Pack", s, e, c.head, 32*width(c.most))
	}
}

func TestTheLastNumberEndsTheLastByte(t *testing.T) {
	for _, most := range mosts() {
		wide := width(most)
		s, e := Pack(api.Poly{255: 1 << (wide - 1)}, most)
		if e != api.OK || len(s) != 32*wide || s[len(s)-1] != 0x80 || strings.Trim(s[:len(s)-1], "\x00") != "" {
			t.Errorf("Pack of the highest bit at 255, most %d, is %x, %d; want that of the last of %d bytes", most, s, e, 32*wide)
		}
	}
}

// P10.2

func TestPackOfTheExample(t *testing.T) {
	s, e := Pack(api.Poly{1, 2}, 3)
	begins(t, "Pack of 1, 2", s, e, "\x09", 64)
	s, e = Pack(api.Poly{}, 1)
	begins(t, "Pack of zeros", s, e, "", 32)
	s, e = Pack(api.Poly{}, prime-1)
	begins(t, "Pack of zeros", s, e, "", 736)
}

func TestPackIsThatOfOneLargeNumber(t *testing.T) {
	for _, most := range mosts() {
		for _, p := range polys(0, most) {
			if s, e := Pack(p, most); s != packed(p, width(most)) || e != api.OK {
				t.Errorf("Pack(%v, %d) = %x, %d", p, most, s, e)
			}
		}
	}
}

func TestPackWithoutAValidMost(t *testing.T) {
	for _, most := range wrongMosts() {
		for _, p := range []api.Poly{{}, {1, 2}, full(-1), full(math.MaxInt)} {
			s, e := Pack(p, most)
			refused(t, "Pack without a valid most", s, e, api.ErrArg)
		}
	}
}

func TestPackOfACoefficientThatIsOver(t *testing.T) {
	for _, most := range mosts() {
		for _, c := range []int{-1, -most, -prime, most + 1, most + prime, prime, 1 << 32, math.MaxInt, math.MinInt} {
			for _, i := range []int{0, 1, 100, 254, 255} {
				p := full(most)
				p[i] = c
				s, e := Pack(p, most)
				refused(t, "Pack of a coefficient that is over", s, e, api.ErrOver)
			}
		}
	}
}

// P10.3

func TestUnpackOfTheExample(t *testing.T) {
	p, e := Unpack("\x09"+strings.Repeat("\x00", 63), 3)
	same(t, "Unpack of 9, 0, ..", p, e, api.Poly{1, 2})
	p, e = Unpack("\x88\xc6\xfa"+strings.Repeat("\x00", 93), 7)
	same(t, "Unpack of three bits each", p, e, api.Poly{0, 1, 2, 3, 4, 5, 6, 7})
	p, e = Unpack(strings.Repeat("\x00", 31)+"\x80", 1)
	same(t, "Unpack of the last bit", p, e, api.Poly{255: 1})
}

func TestUnpackOfWhatIsPackedOtherwise(t *testing.T) {
	for _, most := range mosts() {
		for _, want := range polys(0, most) {
			p, e := Unpack(packed(want, width(most)), most)
			same(t, "Unpack", p, e, want)
		}
	}
}

func TestUnpackWithoutAValidMost(t *testing.T) {
	for _, most := range wrongMosts() {
		for _, n := range []int{0, 32, 64, 736, 768} {
			p, e := Unpack(strings.Repeat("\x00", n), most)
			rejected(t, "Unpack without a valid most", p, e, api.ErrArg)
		}
	}
}

func TestUnpackOfAnotherLength(t *testing.T) {
	for _, most := range mosts() {
		n := 32 * width(most)
		for _, other := range []int{0, 1, n - 32, n - 1, n + 1, n + 32, 2 * n} {
			for _, fill := range []string{"\x00", "\xff"} {
				p, e := Unpack(strings.Repeat(fill, other), most)
				rejected(t, "Unpack of another length", p, e, api.ErrArg)
			}
		}
	}
}

func TestUnpackOfANumberThatIsAboveMost(t *testing.T) {
	for _, most := range mosts() {
		for _, above := range aboves(most) {
			for _, i := range []int{0, 1, 100, 254, 255} {
				for _, p := range []api.Poly{{}, full(most)} {
					p[i] = above
					got, e := Unpack(packed(p, width(most)), most)
					rejected(t, "Unpack of a number above most", got, e, api.ErrForm)
				}
			}
		}
	}
}

// P10.4

func TestSignedOfKnownCoefficients(t *testing.T) {
	for _, p := range []api.Poly{{-2, 2, 1, 0, -1}, {prime - 2, 2, 1, 0, prime - 1}, {-prime - 2, prime + 2, 1 - prime, 2 * prime, -1}} {
		// 4, 0, 1, 2, 3, and then 2 for each 0.
		want := "\x44\x34" + strings.Repeat("\x49\x92\x24", 31) + "\x49"
		if s, e := Signed(p, 2, 2); s != want || e != api.OK {
			t.Errorf("Signed(%v, 2, 2) = %x, %d; want %x, 0", p[:5], s, e, want)
		}
	}
	s, e := Signed(full(2), 2, 2)
	begins(t, "Signed of high", s, e, "", 96)
	s, e = Signed(full(1), 0, 1)
	begins(t, "Signed of high", s, e, "", 32)
	s, e = Signed(full(4096), 4095, 4096)
	begins(t, "Signed of high", s, e, "", 416)
	s, e = Signed(full(4-prime), 4, 4)
	begins(t, "Signed of high", s, e, "", 128)
	s, e = Signed(full(half-1), half-1, half-1)
	begins(t, "Signed of high", s, e, "", 736)
}

func TestSignedIsHighMinusEachCoefficient(t *testing.T) {
	for _, r := range ends() {
		low, high := r[0], r[1]
		for n, p := range polys(-low, high) {
			want := packed(each(p, func(x int) int { return high - x }), width(low+high))
			shifted := p
			for i := range shifted {
				shifted[i] += prime * (below(n*256+i, 2001) - 1000)
			}
			for _, q := range []api.Poly{p, each(p, modulo), shifted} {
				if s, e := Signed(q, low, high); s != want || e != api.OK {
					t.Errorf("Signed(%v, %d, %d) = %x, %d; want %x, 0", q, low, high, s, e, want)
				}
			}
		}
	}
}

func TestSignedWithoutValidEnds(t *testing.T) {
	for _, r := range wrongEnds() {
		for _, p := range []api.Poly{{}, full(1), full(half), full(math.MinInt)} {
			s, e := Signed(p, r[0], r[1])
			refused(t, "Signed without valid ends", s, e, api.ErrArg)
		}
	}
}

func TestSignedOfACoefficientThatIsOver(t *testing.T) {
	for _, r := range ends() {
		low, high := r[0], r[1]
		for _, c := range []int{-low - 1, high + 1, half, -half, prime - low - 1, 5*prime + high + 1, -7*prime - low - 1} {
			for _, i := range []int{0, 1, 100, 254, 255} {
				for _, p := range []api.Poly{{}, full(-low), full(high)} {
					p[i] = c
					s, e := Signed(p, low, high)
					refused(t, "Signed of a coefficient that is over", s, e, api.ErrOver)
				}
			}
		}
	}
}

// The ends of int are centred like all other numbers.
func TestSignedOfTheEndsOfInt(t *testing.T) {
	for _, c := range []int{math.MaxInt, math.MinInt} {
		centred := modulo(c)
		if centred > half {
			centred -= prime
		}
		wide := max(centred, -centred)
		got, e := Signed(full(c), wide, wide)
		if want := packed(full(wide-centred), width(2*wide)); got != want || e != api.OK {
			t.Errorf("Signed of %d = %x, %d; want %x, 0", c, got, e, want)
		}
		got, e = Signed(full(c), wide-1, wide-1)
		refused(t, "Signed of an end of int", got, e, api.ErrOver)
	}
}

// P10.5

func TestUnsignedOfKnownBytes(t *testing.T) {
	p, e := Unsigned("\x44\x34"+strings.Repeat("\x49\x92\x24", 31)+"\x49", 2, 2)
	same(t, "Unsigned of 4, 0, 1, 2, 3, 2, ..", p, e, api.Poly{prime - 2, 2, 1, 0, prime - 1})
	p, e = Unsigned(strings.Repeat("\x00", 96), 2, 2)
	same(t, "Unsigned of zeros", p, e, full(2))
	p, e = Unsigned(strings.Repeat("\xff", 32), 0, 1)
	same(t, "Unsigned of ones", p, e, full(0))
	p, e = Unsigned(strings.Repeat("\xff", 64), 2, 1)
	same(t, "Unsigned of threes", p, e, full(prime-2))
}

func TestUnsignedIsHighMinusEachNumber(t *testing.T) {
	for _, r := range ends() {
		low, high := r[0], r[1]
		for _, p := range polys(0, low+high) {
			got, e := Unsigned(packed(p, width(low+high)), low, high)
			same(t, "Unsigned", got, e, each(p, func(x int) int { return modulo(high - x) }))
		}
	}
}

func TestUnsignedWithoutValidEnds(t *testing.T) {
	for _, r := range wrongEnds() {
		for _, n := range []int{0, 32, 64, 96, 704, 736} {
			p, e := Unsigned(strings.Repeat("\x00", n), r[0], r[1])
			rejected(t, "Unsigned without valid ends", p, e, api.ErrArg)
		}
	}
}

func TestUnsignedOfAnotherLength(t *testing.T) {
	for _, r := range ends() {
		n := 32 * width(r[0]+r[1])
		for _, other := range []int{0, 1, n - 32, n - 1, n + 1, n + 32} {
			p, e := Unsigned(strings.Repeat("\xff", other), r[0], r[1])
			rejected(t, "Unsigned of another length", p, e, api.ErrArg)
		}
	}
}

func TestUnsignedOfANumberThatIsAbove(t *testing.T) {
	for _, r := range ends() {
		most := r[0] + r[1]
		for _, above := range aboves(most) {
			for _, i := range []int{0, 1, 100, 254, 255} {
				p := full(most)
				p[i] = above
				got, e := Unsigned(packed(p, width(most)), r[0], r[1])
				rejected(t, "Unsigned of a number above", got, e, api.ErrForm)
			}
		}
	}
}

// P10.6

// places returns the polynomials that are 1 at the indices, and 0 elsewhere.
func places(indices ...[]int) []api.Poly {
	l := make([]api.Poly, len(indices))
	for n, list := range indices {
		for _, i := range list {
			l[n][i] = 1
		}
	}
	return l
}

// upTo returns the numbers from 0 to below n.
func upTo(n int) []int {
	all := make([]int, n)
	for i := range all {
		all[i] = i
	}
	return all
}

// hintBytes returns the bytes of the polynomials, from lists of indices and of ends.
func hintBytes(l []api.Poly, omega int) string {
	var indices, ends strings.Builder
	for _, p := range l {
		for i := range 256 {
			if p[i] != 0 {
				indices.WriteByte(byte(i))
			}
		}
		ends.WriteByte(byte(indices.Len()))
	}
	return indices.String() + strings.Repeat("\x00", omega-indices.Len()) + ends.String()
}

// scattered returns polynomials with count ones in all, without a pattern.
func scattered(seed, many, count int) []api.Poly {
	l := make([]api.Poly, many)
	for n := 0; count > 0; n++ {
		p, i := below(seed*100000+2*n, many), below(seed*100000+2*n+1, 256)
		if l[p][i] == 0 {
			l[p][i] = 1
			count--
		}
	}
	return l
}

// hinted is polynomials, and the omega for which they are valid hints.
type hinted struct {
	l     []api.Poly
	omega int
}

// hints returns valid hints of many shapes.
func hints() []hinted {
	var all []hinted
	for many := 1; many <= 8; many++ {
		for n, omega := range []int{1, 2, 5, 55, 60, 75, 80, 100, 254, 255} {
			for k, count := range []int{0, 1, omega / 2, omega - 1, omega} {
				all = append(all, hinted{scattered(many*100+n*10+k, many, count), omega})
			}
		}
	}
	return all
}

func TestHintsOfKnownPolynomials(t *testing.T) {
	cases := []struct {
		l     []api.Poly
		omega int
		want  string
	}{
		{places([]int{1, 2}, []int{0}), 5, "\x01\x02\x00\x00\x00\x02\x03"},
		{places([]int{}), 1, "\x00\x00"},
		{places([]int{0}), 1, "\x00\x01"},
		{places([]int{255}), 1, "\xff\x01"},
		{places([]int{0, 255}), 2, "\x00\xff\x02"},
		{places(nil, []int{7}, nil, []int{3, 200}), 4, "\x07\x03\xc8\x00\x00\x01\x01\x03"},
		{places([]int{5}, []int{5}, []int{5}), 3, "\x05\x05\x05\x01\x02\x03"},
		{places(nil, nil, nil, nil, nil, nil, nil, nil), 3, "\x00\x00\x00\x00\x00\x00\x00\x00\x00\x00\x00"},
		{places(nil, nil, nil, nil, nil, nil, nil, []int{9}), 1, "\x09\x00\x00\x00\x00\x00\x00\x00\x01"},
	}
	for _, c := range cases {
		if got, e := Hints(c.l, c.omega); got != c.want || e != api.OK {
			t.Errorf("Hints with %d polynomials and omega %d = %x, %d; want %x, 0", len(c.l), c.omega, got, e, c.want)
		}
	}
}

func TestHintsAreIndicesAndEnds(t *testing.T) {
	for _, h := range hints() {
		if got, e := Hints(h.l, h.omega); got != hintBytes(h.l, h.omega) || e != api.OK {
			t.Errorf("Hints with %d polynomials and omega %d = %x, %d; want %x, 0", len(h.l), h.omega, got, e, hintBytes(h.l, h.omega))
		}
	}
}

func TestHintsOfTheMostIndices(t *testing.T) {
	if got, e := Hints(places(upTo(255)), 255); got != hintBytes(places(upTo(255)), 255) || e != api.OK {
		t.Errorf("Hints of 255 indices = %x, %d", got, e)
	}
	for _, l := range [][]api.Poly{places(upTo(256)), {full(1), full(1)}, {{}, full(1)}, {full(1), full(1), full(1), full(1), full(1), full(1), full(1), full(1)}} {
		got, e := Hints(l, 255)
		refused(t, "Hints of more than 255 indices", got, e, api.ErrOver)
	}
}

// Each coefficient but 0 counts, a multiple of the prime among them.
func TestHintsOfOtherCoefficients(t *testing.T) {
	for _, c := range []int{2, -1, 256, prime, -prime, 1 << 32, math.MaxInt, math.MinInt} {
		got, e := Hints([]api.Poly{{3: c}, {4: c}}, 2)
		if want := "\x03\x04\x01\x02"; got != want || e != api.OK {
			t.Errorf("Hints of %d = %x, %d; want %x, 0", c, got, e, want)
		}
		got, e = Hints([]api.Poly{{3: c}, {4: c}}, 1)
		refused(t, "Hints of other coefficients", got, e, api.ErrOver)
	}
}

func TestHintsOfTooManyIndices(t *testing.T) {
	for _, omega := range []int{1, 2, 60, 80, 254, 255} {
		for many := 1; many <= 8; many++ {
			if omega+1 > 256*many {
				continue
			}
			got, e := Hints(scattered(omega*10+many, many, omega+1), omega)
			refused(t, "Hints of an index more than omega", got, e, api.ErrOver)
		}
	}
	// The one too many is in the last polynomial, which has no others.
	got, e := Hints(places([]int{1, 2}, nil, []int{3}), 2)
	refused(t, "Hints of an index more than omega", got, e, api.ErrOver)
	got, e = Hints(places(nil, nil, []int{0, 254, 255}), 2)
	refused(t, "Hints of an index more than omega", got, e, api.ErrOver)
	// Those behind one too many make no difference.
	got, e = Hints(places(upTo(256), nil), 2)
	refused(t, "Hints of many more than omega", got, e, api.ErrOver)
}

func TestHintsWithoutValidNumbers(t *testing.T) {
	for _, omega := range []int{0, -1, -255, 256, 257, 1<<32 + 5, math.MaxInt, math.MinInt} {
		for _, l := range [][]api.Poly{{{}}, {full(1)}, {{}, {1}}} {
			got, e := Hints(l, omega)
			refused(t, "Hints without a valid omega", got, e, api.ErrArg)
		}
	}
	for _, l := range [][]api.Poly{nil, {}, make([]api.Poly, 9), {full(1), {}, {}, {}, {}, {}, {}, {}, {}}, make([]api.Poly, 256), make([]api.Poly, 257)} {
		got, e := Hints(l, 5)
		refused(t, "Hints without a valid number of polynomials", got, e, api.ErrArg)
	}
}

// P10.7

// none reports if l and e are not no polynomials and the error.
func none(t *testing.T, what string, l []api.Poly, e, want api.Errno) {
	t.Helper()
	if len(l) != 0 || e != want {
		t.Errorf("%s = %d polynomials, %d; want none, %d", what, len(l), e, want)
	}
}

func TestUnhintsOfKnownBytes(t *testing.T) {
	cases := []struct {
		s           string
		omega, many int
		want        []api.Poly
	}{
		{"\x01\x02\x00\x00\x00\x02\x03", 5, 2, places([]int{1, 2}, []int{0})},
		{"\x00\x00", 1, 1, places(nil)},
		{"\x00\x01", 1, 1, places([]int{0})},
		{"\xff\x01", 1, 1, places([]int{255})},
		{"\x00\xff\x02", 2, 1, places([]int{0, 255})},
		{"\x05\x05\x05\x01\x02\x03", 3, 3, places([]int{5}, []int{5}, []int{5})},
		{"\x09\x08\x01\x02", 2, 2, places([]int{9}, []int{8})},
		{"\x07\x03\xc8\x00\x00\x01\x01\x03", 4, 4, places(nil, []int{7}, nil, []int{3, 200})},
		{"\x00\x00\x00\x01\x02", 3, 2, places([]int{0}, []int{0})},
		{"\x00\x00\x00\x00\x00\x00\x00\x00\x00", 1, 8, places(nil, nil, nil, nil, nil, nil, nil, nil)},
	}
	for _, c := range cases {
		if got, e := Unhints(c.s, c.omega, c.many); !slices.Equal(got, c.want) || e != api.OK {
			t.Errorf("Unhints(%x, %d, %d) = %v, %d; want %v, 0", c.s, c.omega, c.many, got, e, c.want)
		}
	}
}

func TestUnhintsOfIndicesAndEnds(t *testing.T) {
	for _, h := range hints() {
		s := hintBytes(h.l, h.omega)
		if got, e := Unhints(s, h.omega, len(h.l)); !slices.Equal(got, h.l) || e != api.OK {
			t.Errorf("Unhints(%x, %d, %d) = %d polynomials, %d; want those that it was made of", s, h.omega, len(h.l), len(got), e)
		}
	}
}

func TestUnhintsOfAWrongForm(t *testing.T) {
	cases := []struct {
		s           string
		omega, many int
	}{
		{"\x01\x02\x00\x00\x00\x02\x01", 5, 2},         // an end below the previous one
		{"\x01\x02\x00\x00\x00\x01\x00", 5, 2},         // also if it is 0
		{"\x01\x02\x00\x00\x00\x01\x02\x01", 5, 3},     // also if it is the last one
		{"\x01\x02\x00\x00\x00\x02\x06", 5, 2},         // an end above omega
		{"\x01\x02\x03\x04\x05\x06\x06", 5, 2},         // the first one, too
		{"\x01\x02\x03\x04\x05\x07\x05", 5, 2},         // one that reaches to the end of the bytes
		{"\x01\x02\x03\x04\x05\x08\x05", 5, 2},         // and beyond them
		{"\x01\x02\x00\x00\x00\xff\x02", 5, 2},         // and far beyond
		{"\x01\x02\x00\x00\x00\x02\xff", 5, 2},         // in the last one
		{"\x02\x01\x00\x00\x00\x02\x02", 5, 2},         // indices that decrease
		{"\x01\x01\x00\x00\x00\x02\x02", 5, 2},         // that are equal
		{"\x00\x00\x00\x00\x00\x02\x02", 5, 2},         // that are 0 both
		{"\xff\xff\x00\x00\x00\x02\x02", 5, 2},         // that are the last one both
		{"\x80\x7f\x00\x00\x00\x02\x02", 5, 2},         // about the middle
		{"\x09\x03\x02\x00\x00\x01\x03", 5, 2},         // in the second polynomial
		{"\x01\x02\x03\x05\x04\x00\x05", 5, 2},         // at the very end
		{"\x01\x02\x01\x00\x00\x02\x02", 5, 2},         // a byte after the last index
		{"\x01\x02\x00\x00\x01\x02\x02", 5, 2},         // in the last place
		{"\x01\x02\x00\x80\x00\x02\x02", 5, 2},         // between two zeros
		{"\x01\x02\x00\x00\xff\x00\x00", 5, 2},         // and where there are no indices
		{"\x01\x00", 1, 1},                             // in the only place
		{"\x00\x02", 1, 1},                             // an end above the only place
		{"\x00\x00\x00\x00\x00\x00\x00\x00\x02", 1, 8}, // of eight polynomials
	}
	for _, c := range cases {
		got, e := Unhints(c.s, c.omega, c.many)
		none(t, "Unhints of a wrong form", got, e, api.ErrForm)
	}
}

func TestUnhintsWithoutValidNumbers(t *testing.T) {
	for _, omega := range []int{0, -1, -2, 256, 257, 1<<32 + 5, math.MaxInt, math.MinInt} {
		for _, n := range []int{0, 1, 7, max(0, min(omega, 300)) + 2} {
			got, e := Unhints(strings.Repeat("\x00", n), omega, 2)
			none(t, "Unhints without a valid omega", got, e, api.ErrArg)
		}
	}
	for _, many := range []int{0, -1, -5, 9, 10, 255, 256, 1<<32 + 2, math.MaxInt, math.MinInt} {
		for _, n := range []int{0, 5, 7, max(0, min(many, 300)) + 5} {
			got, e := Unhints(strings.Repeat("\x00", n), 5, many)
			none(t, "Unhints without a valid number of polynomials", got, e, api.ErrArg)
		}
	}
	// The sum is right, but not each of both.
	for _, c := range [][2]int{{-1, 8}, {0, 7}, {7, 0}, {8, -1}} {
		got, e := Unhints("\x00\x00\x00\x00\x00\x00\x00", c[0], c[1])
		none(t, "Unhints of a right sum", got, e, api.ErrArg)
	}
}

func TestUnhintsOfAnotherLength(t *testing.T) {
	for _, fill := range []string{"\x00", "\xff"} {
		for _, c := range [][2]int{{1, 1}, {5, 2}, {80, 4}, {255, 8}} {
			n := c[0] + c[1]
			for _, other := range []int{0, 1, n - 1, n + 1, 2 * n, c[0], c[1]} {
				if other == n {
					continue
				}
				got, e := Unhints(strings.Repeat(fill, other), c[0], c[1])
				none(t, "Unhints of another length", got, e, api.ErrArg)
			}
		}
	}
}

// P10.8

func TestUnpackInvertsPack(t *testing.T) {
	for _, most := range mosts() {
		for _, p := range polys(0, most) {
			s, _ := Pack(p, most)
			got, e := Unpack(s, most)
			same(t, "Unpack of Pack", got, e, p)
		}
	}
}

func TestUnsignedInvertsSigned(t *testing.T) {
	for _, r := range ends() {
		for _, p := range polys(-r[0], r[1]) {
			s, _ := Signed(p, r[0], r[1])
			got, e := Unsigned(s, r[0], r[1])
			same(t, "Unsigned of Signed", got, e, each(p, modulo))
		}
	}
}

func TestUnhintsInvertsHints(t *testing.T) {
	for _, h := range hints() {
		s, _ := Hints(h.l, h.omega)
		if got, e := Unhints(s, h.omega, len(h.l)); !slices.Equal(got, h.l) || e != api.OK {
			t.Errorf("Unhints of Hints, with %d polynomials and omega %d, is %d polynomials, %d; want those that were passed", len(h.l), h.omega, len(got), e)
		}
	}
}

// Bytes without a pattern are mostly invalid unless all numbers are valid; what is decoded of them is encoded to them.
func TestWhatIsUnpackedIsPackedToTheSame(t *testing.T) {
	decoded := 0
	for n, most := range mosts() {
		s := noiseBytes(n, 32*width(most))
		p, e := Unpack(s, most)
		if e != api.OK {
			continue
		}
		decoded++
		if again, e := Pack(p, most); again != s || e != api.OK {
			t.Errorf("Pack of what is decoded of %x is %x, %d", s, again, e)
		}
		if most < 2 {
			continue
		}
		// What most is made of: half of the prime would not be valid.
		high := min(most/2, half-1)
		if most-high >= half {
			continue
		}
		p, _ = Unsigned(s, most-high, high)
		if again, e := Signed(p, most-high, high); again != s || e != api.OK {
			t.Errorf("Signed of what is decoded of %x is %x, %d", s, again, e)
		}
	}
	if decoded < 10 {
		t.Errorf("only %d strings were decoded", decoded)
	}
}

func TestEachHintHasOneEncoding(t *testing.T) {
	decoded := 0
	for a := range 81 {
		for ends := range 125 {
			s := string([]byte{byte(a % 3), byte(a / 3 % 3), byte(a / 9 % 3), byte(a / 27), byte(ends % 5), byte(ends / 5 % 5), byte(ends / 25)})
			l, e := Unhints(s, 4, 3)
			if e != api.OK {
				continue
			}
			decoded++
			if again, e := Hints(l, 4); again != s || e != api.OK {
				t.Errorf("Hints of what is decoded of %x is %x, %d", s, again, e)
			}
		}
	}
	// At most four ones, in three polynomials of which only three indices are tried.
	if want := 1 + 9 + 36 + 84 + 126; decoded != want {
		t.Errorf("%d strings were decoded; want %d", decoded, want)
	}
}

// R3

func TestWhatIsPassedRemains(t *testing.T) {
	p := polys(-4, 4)[2]
	q := p
	l := scattered(1, 8, 80)
	m := slices.Clone(l)
	Pack(p, 4)
	Signed(p, 4, 4)
	Hints(l[:7], 255)
	if p != q || !slices.Equal(l, m) {
		t.Error("a call modified its arguments")
	}
}
