package field

import (
	"math"
	"math/big"
	"testing"

	"sigil/api"
)

// limits are numbers about which something changes: 0, multiples of the prime and halves of it, powers of two, and the ends of int.
func limits() []int {
	var all []int
	for _, x := range []int{0, api.Prime / 2, api.Prime, 3 * api.Prime / 2, 2 * api.Prime, 1 << 23, 1 << 31, 1 << 32, 1 << 46, api.MaxInt, api.MaxInt / 2, 1 << 62} {
		for d := -3; d <= 3; d++ {
			all = append(all, x+d, -x+d)
		}
	}
	for d := range 4 {
		all = append(all, math.MaxInt-d, math.MinInt+d)
	}
	return append(all, math.MaxInt/2, math.MinInt/2, math.MaxInt/api.Prime*api.Prime, math.MinInt/api.Prime*api.Prime)
}

// noise returns the number n of a sequence without a pattern, from all ints.
func noise(n int) int {
	x := uint64(n)*0x9e3779b97f4a7c15 + 0xd1b54a32d192ed03
	x = (x ^ x>>30) * 0xbf58476d1ce4e5b9
	x = (x ^ x>>27) * 0x94d049bb133111eb
	return int(x ^ x>>31)
}

// numbers returns the limits, and others.
func numbers() []int {
	all := limits()
	for n := range 1000 {
		x := noise(n)
		all = append(all, x, x>>20, x>>38, x>>41, x>>55)
	}
	return all
}

// poly returns a polynomial whose coefficients are taken from the numbers.
func poly(n int) api.Poly {
	from := numbers()
	var p api.Poly
	for i := range p {
		p[i] = from[uint(noise(n*256+i))%uint(len(from))]
	}
	return p
}

// polys returns polynomials of several kinds.
func polys() []api.Poly {
	var low, high, most api.Poly
	for i := range 256 {
		low[i], high[i], most[i] = math.MinInt, math.MaxInt, api.Prime-1
	}
	from := limits()
	var ends api.Poly
	for i := range ends {
		ends[i] = from[i%len(from)]
	}
	all := []api.Poly{{}, {1, 2}, {255: 5}, low, high, most, ends}
	for n := range 20 {
		all = append(all, poly(n))
	}
	return all
}

// congruent returns the number from 0 to m - 1 that is congruent to x, by another implementation.
func congruent(x *big.Int, m int) int {
	return int(new(big.Int).Mod(x, big.NewInt(int64(m))).Int64())
}

// whole returns x as a number without limits.
func whole(x int) *big.Int { return big.NewInt(int64(x)) }

// each returns the results of f for each pair of coefficients, reduced.
func each(a, b api.Poly, f func(x, y *big.Int) *big.Int) api.Poly {
	var c api.Poly
	for i := range c {
		c[i] = congruent(f(whole(a[i]), whole(b[i])), 8380417)
	}
	return c
}

// differ reports the first coefficient at which got is not want.
func differ(t *testing.T, what string, got, want api.Poly) {
	t.Helper()
	for i := range got {
		if got[i] != want[i] {
			t.Fatalf("%s: the coefficient at %d is %d; want %d", what, i, got[i], want[i])
		}
	}
}

// P7.1

func TestReduceOfKnownNumbers(t *testing.T) {
	cases := []struct{ x, want int }{
		{0, 0}, {1, 1}, {8380416, 8380416}, {8380417, 0}, {8380418, 1}, {16760833, 8380416}, {16760834, 0},
		{-1, 8380416}, {-8380416, 1}, {-8380417, 0}, {-8380418, 8380416}, {-16760834, 0}, {-16760835, 8380416},
		{1 << 23, 8191}, {-(1 << 23), 8372226},
	}
	for _, c := range cases {
		if got := Reduce(c.x); got != c.want {
			t.Errorf("Reduce(%d) = %d; want %d", c.x, got, c.want)
		}
	}
}

func TestReduceIsCongruentAndInRange(t *testing.T) {
	for _, x := range numbers() {
		if got, want := Reduce(x), congruent(whole(x), 8380417); got != want {
			t.Errorf("Reduce(%d) = %d; want %d", x, got, want)
		}
	}
}

// P7.2

func TestCentreOfSmallModuli(t *testing.T) {
	cases := []struct {
		m    int
		want []int // of 0, 1 and so on
	}{
		{1, []int{0, 0, 0}},
		{2, []int{0, 1, 0, 1}},
		{3, []int{0, 1, -1, 0, 1, -1}},
		{4, []int{0, 1, 2, -1, 0, 1, 2, -1}},
		{5, []int{0, 1, 2, -2, -1, 0}},
		{8, []int{0, 1, 2, 3, 4, -3, -2, -1, 0, 1, 2, 3, 4, -3}},
	}
	for _, c := range cases {
		for x, want := range c.want {
			if got := Centre(x, c.m); got != want {
				t.Errorf("Centre(%d, %d) = %d; want %d", x, c.m, got, want)
			}
			if got := Centre(x-5*c.m, c.m); got != want {
				t.Errorf("Centre(%d, %d) = %d; want %d", x-5*c.m, c.m, got, want)
			}
		}
	}
}

func TestCentreAtTheHalf(t *testing.T) {
	cases := []struct{ x, m, want int }{
		{5, 8, -3}, {4, 8, 4}, {-5, 8, 3}, {-4, 8, 4}, {-3, 8, -3},
		{4190208, 8380417, 4190208}, {4190209, 8380417, -4190208}, {-4190208, 8380417, -4190208}, {-4190209, 8380417, 4190208},
		{8380416, 8380417, -1}, {8380417, 8380417, 0},
		{4096, 8192, 4096}, {4097, 8192, -4095},
		{95232, 190464, 95232}, {95233, 190464, -95231}, {261888, 523776, 261888}, {261889, 523776, -261887},
		{1 << 49, 1 << 50, 1 << 49}, {1<<49 + 1, 1 << 50, 1 - 1<<49}, {-(1 << 49), 1 << 50, 1 << 49}, {1<<50 - 1, 1 << 50, -1},
		{1<<49 - 1, 1<<50 - 1, 1<<49 - 1}, {1 << 49, 1<<50 - 1, 1 - 1<<49},
	}
	for _, c := range cases {
		if got := Centre(c.x, c.m); got != c.want {
			t.Errorf("Centre(%d, %d) = %d; want %d", c.x, c.m, got, c.want)
		}
	}
}

func TestCentreWithoutAModulusIsZero(t *testing.T) {
	for _, m := range []int{0, -1, -2, -8, -8380417, -api.MaxInt, math.MinInt, math.MinInt + 1, api.MaxInt + 1, api.MaxInt + 2, 1 << 51, 1 << 62, math.MaxInt - 1, math.MaxInt} {
		for _, x := range limits() {
			if got := Centre(x, m); got != 0 {
				t.Errorf("Centre(%d, %d) = %d; want 0", x, m, got)
			}
		}
	}
}

func TestCentreIsCongruentAndAboutZero(t *testing.T) {
	moduli := []int{1, 2, 3, 4, 5, 7, 8, 255, 256, 8192, 190464, 523776, 8380416, 8380417, 1 << 31, 1<<32 + 1, 1 << 49, api.MaxInt - 2, api.MaxInt - 1, api.MaxInt}
	for _, m := range moduli {
		for _, x := range numbers() {
			want := congruent(whole(x), m)
			if 2*want > m {
				want -= m
			}
			if got := Centre(x, m); got != want {
				t.Fatalf("Centre(%d, %d) = %d; want %d", x, m, got, want)
			}
		}
	}
}

// P7.3

func TestRightAtTheEndsOfTheRange(t *testing.T) {
	bad := []int{-1, -2, 8380417, 8380418, -8380416, -8380417, 16760834, 1 << 23, 1 << 32, 1<<32 + 1, api.MaxInt, math.MinInt, math.MaxInt}
	for i := range 256 {
		var p api.Poly
		for _, c := range []int{0, 1, 4190209, 8380415, 8380416} {
			if p[i] = c; !Right(p) {
				t.Errorf("Right of %d at %d = false; want true", c, i)
			}
		}
		for _, c := range bad {
			if p[i] = c; Right(p) {
				t.Errorf("Right of %d at %d = true; want false", c, i)
			}
		}
	}
}

func TestRightOfWholePolynomials(t *testing.T) {
	for n, p := range polys() {
		want := true
		for _, c := range p {
			want = want && 0 <= c && c < 8380417
		}
		if got := Right(p); got != want {
			t.Errorf("Right of the polynomial %d = %t; want %t", n, got, want)
		}
	}
	var most, one api.Poly
	for i := range most {
		most[i], one[i] = 8380416, -1
	}
	if !Right(most) || Right(one) {
		t.Errorf("Right of 8380416 everywhere, and of -1 everywhere = %t, %t; want true, false", Right(most), Right(one))
	}
}

// P7.4

func TestAddAndSubOfKnownPolynomials(t *testing.T) {
	a := api.Poly{0: 1, 1: 8380416, 2: 5, 3: 8380416, 4: -7, 255: 3}
	b := api.Poly{0: 8380416, 1: 8380416, 2: 6, 3: 1, 5: 8380420, 255: 4}
	differ(t, "Add", Add(a, b), api.Poly{0: 0, 1: 8380415, 2: 11, 3: 0, 4: 8380410, 5: 3, 255: 7})
	differ(t, "Sub", Sub(a, b), api.Poly{0: 2, 1: 0, 2: 8380416, 3: 8380415, 4: 8380410, 5: 8380414, 255: 8380416})
}

func TestAddAndSubAreThoseOfTheCoefficients(t *testing.T) {
	all := polys()
	for _, a := range all {
		for _, b := range all {
			differ(t, "Add", Add(a, b), each(a, b, func(x, y *big.Int) *big.Int { return x.Add(x, y) }))
			differ(t, "Sub", Sub(a, b), each(a, b, func(x, y *big.Int) *big.Int { return x.Sub(x, y) }))
		}
	}
}

// P7.5

func TestScaleOfAKnownPolynomial(t *testing.T) {
	a := api.Poly{0: 1, 1: 8380416, 2: 4190209, 3: -3, 4: 8380417, 255: 100}
	differ(t, "Scale by 0", Scale(a, 0), api.Poly{})
	differ(t, "Scale by 1", Scale(a, 1), api.Poly{0: 1, 1: 8380416, 2: 4190209, 3: 8380414, 255: 100})
	differ(t, "Scale by 2", Scale(a, 2), api.Poly{0: 2, 1: 8380415, 2: 1, 3: 8380411, 255: 200})
	differ(t, "Scale by -1", Scale(a, -1), api.Poly{0: 8380416, 1: 1, 2: 4190208, 3: 3, 255: 8380317})
	differ(t, "Scale by the prime", Scale(a, 8380417), api.Poly{})
	differ(t, "Scale by the prime and 2", Scale(a, 8380419), Scale(a, 2))
}

func TestScaleIsThatOfTheCoefficients(t *testing.T) {
	factors := limits()
	for _, a := range polys() {
		for _, n := range factors {
			differ(t, "Scale", Scale(a, n), each(a, a, func(x, y *big.Int) *big.Int { return x.Mul(x, whole(n)) }))
		}
	}
}

// P7.6

func TestSizeOfKnownPolynomials(t *testing.T) {
	cases := []struct {
		l    []api.Poly
		want int
	}{
		{nil, 0},
		{[]api.Poly{}, 0},
		{[]api.Poly{{}}, 0},
		{[]api.Poly{{}, {}}, 0},
		{[]api.Poly{{8380410, 3}}, 7},
		{[]api.Poly{{8380410, 8}}, 8},
		{[]api.Poly{{-5, 3}}, 5},
		{[]api.Poly{{255: 9}, {255: 8380407}, {255: 1}}, 10},
		{[]api.Poly{{0: 1}, {100: 2}, {255: 3}}, 3},
		{[]api.Poly{{0: 3}, {100: 2}, {255: 1}}, 3},
		{[]api.Poly{{4190208}}, 4190208},
		{[]api.Poly{{4190209}}, 4190208},
		{[]api.Poly{{4190207}, {4190210}}, 4190207},
		{[]api.Poly{{8380417, -8380417, 16760834}}, 0},
		{[]api.Poly{{8380418, 8380417 * 4096}}, 1},
	}
	for n, c := range cases {
		if got := Size(c.l); got != c.want {
			t.Errorf("case %d: Size = %d; want %d", n, got, c.want)
		}
	}
}

// largest returns the greatest distance of a coefficient from a multiple of the prime.
func largest(l []api.Poly) int {
	most := 0
	for _, p := range l {
		for _, c := range p {
			x := congruent(whole(c), 8380417)
			most = max(most, min(x, 8380417-x))
		}
	}
	return most
}

func TestSizeCentresEachCoefficient(t *testing.T) {
	for _, c := range limits() {
		want := largest([]api.Poly{{c}})
		for i := range 256 {
			var p api.Poly
			p[i] = c
			for n, l := range [][]api.Poly{{p}, {p, {}, {}}, {{}, p, {}}, {{}, {}, p}} {
				if got := Size(l); got != want {
					t.Fatalf("Size of %d at %d, list %d = %d; want %d", c, i, n, got, want)
				}
			}
		}
	}
}

func TestSizeOfManyPolynomials(t *testing.T) {
	all := polys()
	for from := range all {
		if got, want := Size(all[from:]), largest(all[from:]); got != want {
			t.Errorf("Size of the polynomials from %d on = %d; want %d", from, got, want)
		}
	}
}

// P7.7

func TestAdditionIsCommutativeAndAssociative(t *testing.T) {
	all := polys()
	more := []api.Poly{poly(1000), poly(1001), poly(1002)}
	for _, a := range all {
		for _, b := range all {
			differ(t, "b + a", Add(b, a), Add(a, b))
			for _, c := range more {
				differ(t, "a + (b + c)", Add(a, Add(b, c)), Add(Add(a, b), c))
			}
		}
	}
}

func TestSubtractionInvertsAddition(t *testing.T) {
	var zero api.Poly
	all := polys()
	for _, a := range all {
		want := Add(a, zero)
		for _, b := range all {
			differ(t, "a + b - b", Sub(Add(a, b), b), want)
			differ(t, "a - b + b", Add(Sub(a, b), b), want)
			differ(t, "b - a and a - b", Add(Sub(a, b), Sub(b, a)), zero)
		}
		differ(t, "a - a", Sub(a, a), zero)
		if Right(a) {
			differ(t, "a + 0", want, a)
		}
	}
}

func TestResultsAreValid(t *testing.T) {
	all := polys()
	for _, a := range all {
		for _, b := range all {
			if !Right(Add(a, b)) || !Right(Sub(a, b)) || !Right(Scale(a, b[0])) {
				t.Fatalf("valid: Add %t, Sub %t, Scale %t; want true", Right(Add(a, b)), Right(Sub(a, b)), Right(Scale(a, b[0])))
			}
		}
	}
}

// R3

func TestArgumentsRemain(t *testing.T) {
	a, b := poly(1), poly(2)
	list := []api.Poly{a, b, poly(3)}
	p, q := a, b
	Add(p, q)
	Sub(p, q)
	Scale(p, 3)
	Right(p)
	Size(list[:2])
	if p != a || q != b {
		t.Error("an argument has changed")
	}
	if list[0] != a || list[1] != b || list[2] != poly(3) {
		t.Error("the list that was passed to Size has changed")
	}
}
