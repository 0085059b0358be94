package round

import (
	"math"
	"math/big"
	"testing"

	"sigil/api"
	"sigil/field"
)

const prime = 8380417

// steps returns the valid values of Gamma2.
func steps() []int { return []int{95232, 261888} }

// wrongSteps returns values that are not valid for Gamma2.
func wrongSteps() []int {
	return []int{0, 1, -1, 2, 4096, 8192, 95231, 95233, 190464, 261887, 261889, 523776, -95232, -261888, 131072, 524288, prime, api.MaxInt, math.MaxInt, math.MinInt, 1<<32 + 95232, 1<<32 + 261888, 1<<62 + 47616, math.MinInt + 95232}
}

// noise returns the number n of a sequence without a pattern, from all ints.
func noise(n int) int {
	x := uint64(n)*0x9e3779b97f4a7c15 + 0xd1b54a32d192ed03
	x = (x ^ x>>30) * 0xbf58476d1ce4e5b9
	x = (x ^ x>>27) * 0x94d049bb133111eb
	return int(x ^ x>>31)
}

// borders returns the numbers from 0 to the prime - 1 about which a part changes: those near multiples of g and near the ends.
func borders(g int) []int {
	var all []int
	for x := 0; x <= prime+g; x += g {
		for d := -3; d <= 3; d++ {
			all = append(all, rest(x+d), rest(x-1+prime+d))
		}
	}
	return all
}

// limits returns numbers that are not reduced: near multiples of the prime, powers of two, and the ends of int.
func limits() []int {
	var all []int
	for _, x := range []int{0, 4096, 8192, 95232, 261888, prime / 2, prime, 2 * prime, 1 << 31, 1 << 32, api.MaxInt, 1 << 62} {
		for d := -3; d <= 3; d++ {
			all = append(all, x+d, -x+d)
		}
	}
	for d := range 4 {
		all = append(all, math.MaxInt-d, math.MinInt+d)
	}
	return append(all, math.MaxInt/prime*prime, math.MinInt/prime*prime)
}

// numbers returns borders, limits, and numbers without a pattern.
func numbers(g int) []int {
	all := append(borders(g), limits()...)
	for n := range 1000 {
		all = append(all, noise(n), noise(n)>>40)
	}
	return all
}

// rest returns the number from 0 to the prime - 1 that is congruent to x.
func rest(x int) int {
	return int(new(big.Int).Mod(big.NewInt(int64(x)), big.NewInt(prime)).Int64())
}

// pack returns polynomials with all the numbers, in their order.
func pack(all []int) []api.Poly {
	polys := make([]api.Poly, (len(all)+255)/256)
	for n, x := range all {
		polys[n/256][n%256] = x
	}
	return polys
}

// full returns a polynomial with the same coefficient everywhere.
func full(x int) api.Poly {
	var p api.Poly
	for i := range p {
		p[i] = x
	}
	return p
}

// each returns the results of f for the coefficients of p.
func each(p api.Poly, f func(x int) int) api.Poly {
	for i, x := range p {
		p[i] = f(x)
	}
	return p
}

// nearest returns the number of the multiple of m that is nearest to x, and what x is above it; x is halfway above it, not below. It searches, as the chapter does not.
func nearest(x, m int) (int, int) {
	n := 0
	for x-n*m > m/2 {
		n++
	}
	return n, x - n*m
}

// parts returns what Parts is to return for a valid g, by another way: the multiples of 2 g are searched, and the one at the prime - 1 is 0.
func parts(x, g int) (int, int) {
	n, low := nearest(rest(x), 2*g)
	if n == (prime-1)/(2*g) {
		return 0, low - 1
	}
	return n, low
}

// differ reports the first coefficient at which got is not want.
func differ(t *testing.T, what string, got, want api.Poly) {
	t.Helper()
	for i := range got {
		if got[i] != want[i] {
			t.Fatalf("%s: the coefficient at %d is %d; want %d", what, i, got[i], want[i])
		}
	}
}

// P9.1

func TestSetOfEachKind(t *testing.T) {
	cases := []struct {
		kind int
		want api.Lattice
	}{
		{1, api.Lattice{K: 4, L: 4, Eta: 2, Tau: 39, Gamma1: 131072, Gamma2: 95232, Omega: 80, Lambda: 128}},
		{2, api.Lattice{K: 6, L: 5, Eta: 4, Tau: 49, Gamma1: 524288, Gamma2: 261888, Omega: 55, Lambda: 192}},
		{3, api.Lattice{K: 8, L: 7, Eta: 2, Tau: 60, Gamma1: 524288, Gamma2: 261888, Omega: 75, Lambda: 256}},
		{4, api.Lattice{K: 1, L: 1, Eta: 2, Tau: 20, Gamma1: 131072, Gamma2: 95232, Omega: 60, Lambda: 128}},
	}
	for _, c := range cases {
		if got, e := Set(c.kind); got != c.want || e != api.OK {
			t.Errorf("Set(%d) = %v, %d; want %v, 0", c.kind, got, e, c.want)
		}
	}
}

func TestSetOfOtherKinds(t *testing.T) {
	for _, kind := range []int{0, 5, 6, 7, 8, 44, 65, 87, 255, 256, 257, -1, -2, -4, 1<<32 + 1, 1 << 62, api.MaxInt, math.MaxInt, math.MinInt, math.MinInt + 1} {
		if got, e := Set(kind); got != (api.Lattice{}) || e != api.ErrNone {
			t.Errorf("Set(%d) = %v, %d; want the zero value and %d", kind, got, e, api.ErrNone)
		}
	}
}

// P9.2

func TestRightOfTheSets(t *testing.T) {
	for kind := 1; kind <= 4; kind++ {
		if p, _ := Set(kind); !Right(p) {
			t.Errorf("Right of the set %d = false; want true", kind)
		}
	}
	if Right(api.Lattice{}) {
		t.Error("Right of the zero value = true; want false")
	}
}

// span returns the numbers from 1 to most.
func span(most int) []int {
	var all []int
	for n := 1; n <= most; n++ {
		all = append(all, n)
	}
	return all
}

func TestRightOfEachParameter(t *testing.T) {
	cases := []struct {
		name string
		good []int
		put  func(p *api.Lattice, n int)
	}{
		{"K", span(8), func(p *api.Lattice, n int) { p.K = n }},
		{"L", span(8), func(p *api.Lattice, n int) { p.L = n }},
		{"Eta", []int{2, 4}, func(p *api.Lattice, n int) { p.Eta = n }},
		{"Tau", span(64), func(p *api.Lattice, n int) { p.Tau = n }},
		{"Gamma1", []int{131072, 524288}, func(p *api.Lattice, n int) { p.Gamma1 = n }},
		{"Gamma2", []int{95232, 261888}, func(p *api.Lattice, n int) { p.Gamma2 = n }},
		{"Omega", span(100), func(p *api.Lattice, n int) { p.Omega = n }},
		{"Lambda", []int{128, 192, 256}, func(p *api.Lattice, n int) { p.Lambda = n }},
	}
	tried := append(span(300), 0, -1, -2, -4, -8, -128, 131071, 131072, 131073, 262144, 524287, 524288, 524289, 95231, 95232, 95233, 190464, 261887, 261888, 261889, -95232, -131072, 1<<32+2, 1<<32+4, 1<<32+128, 1<<32+131072, 1<<32+95232, api.MaxInt, math.MaxInt, math.MinInt)
	for _, c := range cases {
		good := map[int]int{}
		for _, n := range c.good {
			good[n] = 1
		}
		for kind := 1; kind <= 4; kind++ {
			for _, n := range tried {
				p, _ := Set(kind)
				c.put(&p, n)
				if got, want := Right(p), good[n] == 1; got != want {
					t.Errorf("Right of the set %d with %s %d = %t; want %t", kind, c.name, n, got, want)
				}
			}
		}
	}
}

// P9.3

func TestSplitOfKnownNumbers(t *testing.T) {
	cases := []struct{ x, high, low int }{
		{0, 0, 0}, {1, 0, 1}, {4095, 0, 4095}, {4096, 0, 4096}, {4097, 1, 8376322}, {8191, 1, 8380416}, {8192, 1, 0}, {8193, 1, 1},
		{12288, 1, 4096}, {12289, 2, 8376322}, {8376320, 1022, 4096}, {8376321, 1023, 8376322}, {8380415, 1023, 8380416}, {8380416, 1023, 0},
		{8380417, 0, 0}, {8380418, 0, 1}, {-1, 1023, 0}, {-2, 1023, 8380416}, {-4096, 1023, 8376322}, {-4097, 1022, 4096}, {-8380416, 0, 1},
	}
	for _, c := range cases {
		high, low := Split(full(c.x))
		differ(t, "the high parts of Split", high, full(c.high))
		differ(t, "the low parts of Split", low, full(c.low))
	}
	high, low := Split(api.Poly{1: 8192, 255: 4097})
	differ(t, "the high parts of Split", high, api.Poly{1: 1, 255: 1})
	differ(t, "the low parts of Split", low, api.Poly{255: 8376322})
}

func TestSplitIsThatOfTheCoefficients(t *testing.T) {
	for _, p := range pack(append(borders(4096), numbers(95232)...)) {
		high, low := Split(p)
		differ(t, "the high parts of Split", high, each(p, func(x int) int { n, _ := nearest(rest(x), 8192); return n }))
		differ(t, "the low parts of Split", low, each(p, func(x int) int { _, d := nearest(rest(x), 8192); return rest(d) }))
	}
}

// P9.4

func TestPartsOfKnownNumbers(t *testing.T) {
	cases := []struct{ x, g, high, low int }{
		{0, 95232, 0, 0}, {1, 95232, 0, 1}, {95231, 95232, 0, 95231}, {95232, 95232, 0, 95232}, {95233, 95232, 1, -95231},
		{190463, 95232, 1, -1}, {190464, 95232, 1, 0}, {190465, 95232, 1, 1}, {285696, 95232, 1, 95232}, {285697, 95232, 2, -95231},
		{8189952, 95232, 43, 0}, {8285184, 95232, 43, 95232}, {8285185, 95232, 0, -95232}, {8285186, 95232, 0, -95231},
		{8380415, 95232, 0, -2}, {8380416, 95232, 0, -1}, {8380417, 95232, 0, 0}, {-1, 95232, 0, -1}, {-95232, 95232, 0, -95232}, {-95233, 95232, 43, 95232},
		{0, 261888, 0, 0}, {261888, 261888, 0, 261888}, {261889, 261888, 1, -261887}, {523775, 261888, 1, -1}, {523776, 261888, 1, 0},
		{7856640, 261888, 15, 0}, {8118528, 261888, 15, 261888}, {8118529, 261888, 0, -261888}, {8118530, 261888, 0, -261887},
		{8380416, 261888, 0, -1}, {8380418, 261888, 0, 1}, {-1, 261888, 0, -1}, {-261888, 261888, 0, -261888}, {-261889, 261888, 15, 261888},
	}
	for _, c := range cases {
		if high, low := Parts(c.x, c.g); high != c.high || low != c.low {
			t.Errorf("Parts(%d, %d) = %d, %d; want %d, %d", c.x, c.g, high, low, c.high, c.low)
		}
	}
}

func TestPartsOfAllReducedNumbers(t *testing.T) {
	for _, g := range steps() {
		high, low := 0, 0
		for x := range prime {
			wantHigh, wantLow := high, low
			if x > prime-1-g {
				wantHigh, wantLow = 0, x-prime
			}
			if gotHigh, gotLow := Parts(x, g); gotHigh != wantHigh || gotLow != wantLow {
				t.Fatalf("Parts(%d, %d) = %d, %d; want %d, %d", x, g, gotHigh, gotLow, wantHigh, wantLow)
			}
			if low++; low > g {
				high, low = high+1, low-2*g
			}
		}
	}
}

func TestPartsOfOtherNumbers(t *testing.T) {
	for _, g := range steps() {
		for _, x := range numbers(g) {
			wantHigh, wantLow := parts(x, g)
			if high, low := Parts(x, g); high != wantHigh || low != wantLow {
				t.Errorf("Parts(%d, %d) = %d, %d; want %d, %d", x, g, high, low, wantHigh, wantLow)
			}
		}
	}
}

func TestPartsWithoutAStepAreZero(t *testing.T) {
	for _, g := range wrongSteps() {
		for _, x := range numbers(95232) {
			if high, low := Parts(x, g); high != 0 || low != 0 {
				t.Fatalf("Parts(%d, %d) = %d, %d; want 0, 0", x, g, high, low)
			}
		}
	}
}

// P9.5

func TestHighAndLowOfKnownNumbers(t *testing.T) {
	p := api.Poly{0: 95233, 1: 8380416, 2: 190464, 3: 5, 4: -95233, 255: 8285185}
	differ(t, "High", High(p, 95232), api.Poly{0: 1, 2: 1, 4: 43})
	differ(t, "Low", Low(p, 95232), api.Poly{0: 8285186, 1: 8380416, 3: 5, 4: 95232, 255: 8285185})
	differ(t, "High", High(p, 261888), api.Poly{4: 0})
	differ(t, "Low", Low(p, 261888), api.Poly{0: 95233, 1: 8380416, 2: 190464, 3: 5, 4: 8285184, 255: 8285185})
}

func TestHighAndLowAreThePartsOfTheCoefficients(t *testing.T) {
	for _, g := range steps() {
		for _, p := range pack(numbers(g)) {
			high, low := High(p, g), Low(p, g)
			differ(t, "High", high, each(p, func(x int) int { n, _ := parts(x, g); return n }))
			differ(t, "Low", low, each(p, func(x int) int { _, d := parts(x, g); return rest(d) }))
			if !field.Right(high) || !field.Right(low) {
				t.Fatal("High or Low is not reduced")
			}
		}
	}
}

func TestHighAndLowWithoutAStepAreZero(t *testing.T) {
	for _, g := range wrongSteps() {
		for _, p := range pack(numbers(95232)) {
			differ(t, "High", High(p, g), api.Poly{})
			differ(t, "Low", Low(p, g), api.Poly{})
		}
	}
}

// P9.6

func TestHintOfKnownNumbers(t *testing.T) {
	cases := []struct{ z, r, g, want int }{
		{0, 0, 95232, 0}, {95232, 0, 95232, 0}, {95233, 0, 95232, 1}, {-95232, 0, 95232, 0}, {-95233, 0, 95232, 1},
		{1, 95232, 95232, 1}, {-1, 95233, 95232, 1}, {1, 95231, 95232, 0}, {-1, 95232, 95232, 0}, {1, 95233, 95232, 0},
		{1, 8380416, 95232, 0}, {1, 8285184, 95232, 1}, {-1, 8285185, 95232, 1}, {-1, 0, 95232, 0},
		{190464, 0, 95232, 1}, {8380417, 5, 95232, 0}, {8380416, 95233, 95232, 1},
		{1, 261888, 261888, 1}, {1, 95232, 261888, 0}, {261888, 0, 261888, 0}, {261889, 0, 261888, 1}, {-1, 8118529, 261888, 1}, {-1, 8118530, 261888, 0},
	}
	for _, c := range cases {
		differ(t, "Hint", Hint(full(c.z), full(c.r), c.g), full(c.want))
	}
	differ(t, "Hint", Hint(api.Poly{0: 1, 7: 1, 255: -1}, api.Poly{0: 95232, 8: 95232, 255: 95233}, 95232), api.Poly{0: 1, 255: 1})
}

// hint returns what Hint is to return at an index, for a valid g.
func hint(z, r, g int) int {
	before, _ := parts(r, g)
	if after, _ := parts(rest(r)+rest(z), g); after != before {
		return 1
	}
	return 0
}

func TestHintTellsWhereHighDiffers(t *testing.T) {
	for _, g := range steps() {
		added := append(limits(), -g, g, -2*g, 2*g, 7*g+1)
		for n, r := range pack(numbers(g)) {
			var z, want api.Poly
			for i := range z {
				z[i] = added[uint(noise(n*256+i))%uint(len(added))]
				want[i] = hint(z[i], r[i], g)
			}
			differ(t, "Hint", Hint(z, r, g), want)
		}
	}
}

func TestHintWithoutAStepIsZero(t *testing.T) {
	for _, g := range wrongSteps() {
		for _, r := range pack(numbers(95232)) {
			differ(t, "Hint", Hint(full(190464), r, g), api.Poly{})
		}
	}
}

// P9.7

func TestUseOfKnownNumbers(t *testing.T) {
	cases := []struct{ h, r, g, want int }{
		{0, 0, 95232, 0}, {1, 0, 95232, 43}, {1, 1, 95232, 1}, {1, 8380416, 95232, 43}, {0, 8380416, 95232, 0},
		{1, 190464, 95232, 0}, {1, 190465, 95232, 2}, {1, 190463, 95232, 0}, {0, 190465, 95232, 1},
		{1, 8189952, 95232, 42}, {1, 8189953, 95232, 0}, {1, 8285184, 95232, 0}, {1, 8285185, 95232, 43}, {0, 8285184, 95232, 43},
		{1, 0, 261888, 15}, {1, 1, 261888, 1}, {1, 7856640, 261888, 14}, {1, 7856641, 261888, 0}, {1, 8118529, 261888, 15}, {0, 7856641, 261888, 15},
		{1, 8380418, 95232, 1}, {1, -1, 95232, 43}, {0, -95233, 95232, 43},
	}
	for _, c := range cases {
		differ(t, "Use", Use(full(c.h), full(c.r), c.g), full(c.want))
	}
	differ(t, "Use", Use(api.Poly{0: 1, 255: 1}, api.Poly{0: 5, 1: 5, 255: 190463}, 95232), api.Poly{0: 1})
}

// use returns what Use is to return at an index, for a valid g.
func use(h, r, g int) int {
	high, low := parts(r, g)
	last := (prime-1)/(2*g) - 1
	switch {
	case h == 0:
		return high
	case low > 0 && high == last:
		return 0
	case low > 0:
		return high + 1
	case high == 0:
		return last
	}
	return high - 1
}

func TestUseIsThatOfTheCoefficients(t *testing.T) {
	for _, g := range steps() {
		for n, r := range pack(numbers(g)) {
			for _, h := range []api.Poly{{}, full(1), each(r, func(x int) int { return noise(x+n) & 1 })} {
				var want api.Poly
				for i := range want {
					want[i] = use(h[i], r[i], g)
				}
				differ(t, "Use", Use(h, r, g), want)
			}
		}
	}
}

// Each number but 0 is one that is not 0, a multiple of the prime among them.
func TestUseOfHintsThatAreNotReduced(t *testing.T) {
	for _, h := range []int{2, -1, prime, -prime, 1 << 32, math.MaxInt, math.MinInt} {
		differ(t, "Use", Use(full(h), full(190465), 95232), full(2))
		differ(t, "Use", Use(full(h), full(190464), 95232), full(0))
	}
}

func TestUseWithoutAStepIsZero(t *testing.T) {
	for _, g := range wrongSteps() {
		for _, r := range pack(numbers(95232)) {
			differ(t, "Use of 0", Use(api.Poly{}, r, g), api.Poly{})
			differ(t, "Use of 1", Use(full(1), r, g), api.Poly{})
		}
	}
}

// P9.8

func TestPartsAddUp(t *testing.T) {
	for _, g := range steps() {
		for _, x := range numbers(g) {
			if high, low := Parts(x, g); rest(high*2*g+low) != rest(x) {
				t.Errorf("Parts(%d, %d) = %d, %d, which add up to %d; want %d", x, g, high, low, rest(high*2*g+low), rest(x))
			}
		}
		for _, p := range pack(numbers(g)) {
			differ(t, "High and Low", field.Add(field.Scale(High(p, g), 2*g), Low(p, g)), each(p, rest))
		}
	}
}

func TestSplitAddsUp(t *testing.T) {
	for _, p := range pack(append(borders(4096), numbers(95232)...)) {
		high, low := Split(p)
		differ(t, "Split", field.Add(field.Scale(high, 8192), low), each(p, rest))
	}
}

// P9.9

func TestHintsYieldTheHighPartOfTheSum(t *testing.T) {
	for _, g := range steps() {
		for n, r := range pack(numbers(g)) {
			some := each(r, func(x int) int { return int(uint(noise(x^n))%uint(2*g+1)) - g })
			for _, z := range []api.Poly{full(-g), full(1 - g), full(-g / 2), full(-1), {}, full(1), full(g / 2), full(g - 1), full(g), some, each(some, rest)} {
				differ(t, "Use of Hint", Use(Hint(z, r, g), r, g), High(field.Add(r, z), g))
			}
		}
	}
}

// R3

func TestWhatIsPassedRemains(t *testing.T) {
	a, b := pack(numbers(95232))[0], pack(numbers(261888))[1]
	p, q := a, b
	Split(p)
	High(p, 95232)
	Low(p, 95232)
	Hint(p, q, 95232)
	Use(p, q, 95232)
	if p != a || q != b {
		t.Error("a call modified its arguments")
	}
}
