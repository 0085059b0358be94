package ntt

import (
	"math"
	"math/big"
	"testing"

	"sigil/api"
	"sigil/tables"
)

const prime = 8380417

// noise returns the number n of a sequence without a pattern, from all ints.
func noise(n int) int {
	x := uint64(n)*0x9e3779b97f4a7c15 + 0xd1b54a32d192ed03
	x = (x ^ x>>30) * 0xbf58476d1ce4e5b9
	x = (x ^ x>>27) * 0x94d049bb133111eb
	return int(x ^ x>>31)
}

// limits are numbers about which something changes: 0, multiples of the prime and halves of it, powers of two, and the ends of int.
func limits() []int {
	var all []int
	for _, x := range []int{0, prime / 2, prime, 3 * prime / 2, 2 * prime, 1 << 23, 1 << 31, 1 << 32, 1 << 46, api.MaxInt, 1 << 62} {
		for d := -2; d <= 2; d++ {
			all = append(all, x+d, -x+d)
		}
	}
	return append(all, math.MaxInt, math.MaxInt-1, math.MinInt, math.MinInt+1, math.MaxInt/prime*prime, math.MinInt/prime*prime)
}

// full returns a polynomial or a table of the same number.
func full(x int) [256]int {
	var p [256]int
	for i := range p {
		p[i] = x
	}
	return p
}

// mixed returns 256 limits and other numbers.
func mixed(n int) [256]int {
	from := limits()
	var p [256]int
	for i := range p {
		p[i] = noise(n*256 + i)
		if at := uint(p[i]) % uint(2*len(from)); at < uint(len(from)) {
			p[i] = from[at]
		}
	}
	return p
}

// reducedNoise returns a reduced polynomial without a pattern.
func reducedNoise(n int) api.Poly {
	var p api.Poly
	for i := range p {
		p[i] = int(uint(noise(n*256+i)) % prime)
	}
	return p
}

// power returns X to the power i, times x.
func power(i, x int) api.Poly {
	var p api.Poly
	p[i] = x
	return p
}

// polys returns polynomials of several kinds, reduced and not.
func polys() []api.Poly {
	all := []api.Poly{{}, {1, 2}, {255: 5}, full(1), full(prime - 1), full(prime), full(-1), full(math.MinInt), full(math.MaxInt)}
	for n := range 4 {
		all = append(all, mixed(n), reducedNoise(n))
	}
	return all
}

// powers returns the powers of X that a transform treats differently.
func powers() []int {
	all := []int{0, 1, 2, 3, 255, 254, 85, 170}
	for i := 4; i < 256; i *= 2 {
		all = append(all, i-1, i, i+1)
	}
	return all
}

// strange returns tables that are not those of chapter 2.
func strange() []api.Tables {
	all := []api.Tables{{}, {Zetas: full(1)}, {Zetas: full(-1)}, {Zetas: full(prime - 1)}, {Zetas: full(prime)}, {Zetas: full(math.MaxInt)}, {Zetas: full(math.MinInt)}}
	for n := range 3 {
		all = append(all, api.Tables{Zetas: mixed(100 + n)}, api.Tables{Zetas: reducedNoise(100 + n)})
	}
	return all
}

// whole returns x as a number without limits.
func whole(x int) *big.Int { return big.NewInt(int64(x)) }

// rest returns the number from 0 to the prime - 1 that is congruent to x.
func rest(x *big.Int) int { return int(new(big.Int).Mod(x, whole(prime)).Int64()) }

// product returns the product modulo the prime.
func product(all ...int) int {
	x := whole(1)
	for _, f := range all {
		x.Mul(x, whole(f))
	}
	return rest(x)
}

// sum returns the sum modulo the prime.
func sum(all ...int) int {
	x := whole(0)
	for _, s := range all {
		x.Add(x, whole(s))
	}
	return rest(x)
}

// least returns p with each coefficient reduced.
func least(p api.Poly) api.Poly {
	for i := range p {
		p[i] = rest(whole(p[i]))
	}
	return p
}

// each returns the results of f for each pair of coefficients.
func each(a, b api.Poly, f func(...int) int) api.Poly {
	for i := range a {
		a[i] = f(a[i], b[i])
	}
	return a
}

// slowly returns the product of a and b modulo X^256 + 1, by another implementation: each coefficient is the sum of its products.
func slowly(a, b api.Poly) api.Poly {
	a, b = least(a), least(b)
	var c api.Poly
	for n := range c {
		x := whole(0)
		for i := range a {
			if j := n - i; j >= 0 {
				x.Add(x, whole(a[i]*b[j]))
			} else {
				x.Sub(x, whole(a[i]*b[j+256]))
			}
		}
		c[n] = rest(x)
	}
	return c
}

// there transforms p as the chapter says it, by the whole numbers.
func there(t api.Tables, p api.Poly) api.Poly {
	c, k := least(p), 0
	for size := 128; size >= 1; size /= 2 {
		for start := 0; start < 256; start += 2 * size {
			k++
			for i := start; i < start+size; i++ {
				x := product(t.Zetas[k], c[i+size])
				c[i+size] = sum(c[i], -x)
				c[i] = sum(c[i], x)
			}
		}
	}
	return c
}

// back transforms p back as the chapter says it, by the whole numbers.
func back(t api.Tables, p api.Poly) api.Poly {
	c, k := least(p), 256
	for size := 1; size <= 128; size *= 2 {
		for start := 0; start < 256; start += 2 * size {
			k--
			for i := start; i < start+size; i++ {
				old, other := c[i], c[i+size]
				c[i] = sum(old, other)
				c[i+size] = product(-1, t.Zetas[k], sum(old, -other))
			}
		}
	}
	for i := range c {
		c[i] = product(c[i], 8347681)
	}
	return c
}

// root returns the root of X^256 + 1 at which the transform's coefficient i is the value: 1753 to the power of 1 plus twice the number whose eight bits are those of i in reverse order.
func root(i int) *big.Int {
	n := 0
	for b := range 8 {
		n |= i >> b & 1 << (7 - b)
	}
	return new(big.Int).Exp(whole(1753), whole(2*n+1), whole(prime))
}

// differ reports the first coefficient at which got is not want.
func differ(t *testing.T, what string, got, want api.Poly) {
	t.Helper()
	for i := range got {
		if got[i] != want[i] {
			t.Fatalf("%s: the coefficient at %d is %d; want %d", what, i, got[i], want[i])
		}
	}
}

// P8.1

func TestThereOfKnownPolynomials(t *testing.T) {
	x := tables.Make()
	differ(t, "of 0", There(x, api.Poly{}), api.Poly{})
	differ(t, "of 3", There(x, api.Poly{3}), full(3))
	differ(t, "of the prime + 3", There(x, api.Poly{prime + 3}), full(3))
	differ(t, "of -1", There(x, api.Poly{-1}), full(8380416))
	got := There(x, api.Poly{0, 1})
	for i, want := range []int{1753, 8378664, 6444997, 1935420} {
		if got[i] != want {
			t.Errorf("the coefficient at %d of There(X) is %d; want %d", i, got[i], want)
		}
	}
}

func TestThereIsTheValuesAtTheRoots(t *testing.T) {
	x := tables.Make()
	for n, p := range polys() {
		got := There(x, p)
		for i := range got {
			value, at := whole(0), root(i)
			for k := range 256 {
				value.Mul(value, at)
				value.Add(value, whole(p[255-k]))
				value.Mod(value, whole(prime))
			}
			if got[i] != rest(value) {
				t.Fatalf("polynomial %d: the coefficient at %d is %d; want %d", n, i, got[i], rest(value))
			}
		}
	}
}

func TestThereWithTheTables(t *testing.T) {
	x := tables.Make()
	for _, p := range polys() {
		differ(t, "There", There(x, p), there(x, p))
	}
	for _, i := range powers() {
		differ(t, "There of a power", There(x, power(i, 1)), there(x, power(i, 1)))
	}
}

func TestThereWithStrangeTables(t *testing.T) {
	for _, x := range strange() {
		for _, p := range polys() {
			differ(t, "There", There(x, p), there(x, p))
		}
	}
}

func TestThereWithoutRoots(t *testing.T) {
	differ(t, "with zetas of 0", There(api.Tables{}, api.Poly{7, 8, 9, 255: 10}), full(7))
}

func TestThereUsesEachZetaButTheFirst(t *testing.T) {
	x, p := tables.Make(), reducedNoise(7)
	for k := range 256 {
		other := x
		other.Zetas[k] = 5
		got := There(other, p)
		differ(t, "There", got, there(other, p))
		if changed := got != There(x, p); changed != (k > 0) {
			t.Errorf("zeta %d is used: %t", k, changed)
		}
	}
}

// P8.2

func TestBackOfKnownPolynomials(t *testing.T) {
	x := tables.Make()
	differ(t, "of 0", Back(x, api.Poly{}), api.Poly{})
	differ(t, "of 3 everywhere", Back(x, full(3)), api.Poly{3})
	differ(t, "of the prime + 3 everywhere", Back(x, full(prime+3)), api.Poly{3})
	differ(t, "of -1 everywhere", Back(x, full(-1)), api.Poly{8380416})
}

func TestBackInterpolates(t *testing.T) {
	x := tables.Make()
	// The polynomial with the value 1 at the root r alone has at the power n the coefficient r to the power -n, divided by 256.
	for _, i := range powers() {
		inverse := new(big.Int).ModInverse(root(i), whole(prime))
		value := new(big.Int).ModInverse(whole(256), whole(prime))
		var want api.Poly
		for n := range want {
			want[n] = rest(value)
			value.Mul(value, inverse)
		}
		differ(t, "Back of a power", Back(x, power(i, 1)), want)
	}
}

func TestBackWithTheTables(t *testing.T) {
	x := tables.Make()
	for _, p := range polys() {
		differ(t, "Back", Back(x, p), back(x, p))
	}
	for _, i := range powers() {
		differ(t, "Back of a power", Back(x, power(i, 1)), back(x, power(i, 1)))
	}
}

func TestBackWithStrangeTables(t *testing.T) {
	for _, x := range strange() {
		for _, p := range polys() {
			differ(t, "Back", Back(x, p), back(x, p))
		}
	}
}

func TestBackWithoutRoots(t *testing.T) {
	// What remains is the sum of the coefficients, divided by 256.
	differ(t, "with zetas of 0", Back(api.Tables{}, full(7)), api.Poly{7})
	differ(t, "with zetas of 0", Back(api.Tables{}, api.Poly{200, 50, 255: 6}), api.Poly{1})
}

func TestBackUsesEachZetaButTheFirst(t *testing.T) {
	x, p := tables.Make(), reducedNoise(8)
	for k := range 256 {
		other := x
		other.Zetas[k] = 5
		got := Back(other, p)
		differ(t, "Back", got, back(other, p))
		if changed := got != Back(x, p); changed != (k > 0) {
			t.Errorf("zeta %d is used: %t", k, changed)
		}
	}
}

// P8.3

func TestTimesOfKnownPolynomials(t *testing.T) {
	a := api.Poly{2, -3, prime, 8380416, 1 << 12, math.MaxInt, math.MinInt, 255: 9}
	b := api.Poly{5, 4, 77, 8380416, 1 << 11, 0, 1, 255: 11}
	differ(t, "Times", Times(a, b), api.Poly{10, 8380405, 0, 1, 8191, 0, rest(whole(math.MinInt)), 255: 99})
}

func TestTimesOfAllPolynomials(t *testing.T) {
	for _, a := range polys() {
		for _, b := range polys() {
			differ(t, "Times", Times(a, b), each(a, b, product))
		}
	}
}

// P8.4

func TestProductOfKnownPolynomials(t *testing.T) {
	x := tables.Make()
	differ(t, "(1 + 2 X) (3 + 4 X)", Product(x, api.Poly{1, 2}, api.Poly{3, 4}), api.Poly{3, 10, 8})
	differ(t, "X times X^255", Product(x, power(1, 1), power(255, 1)), api.Poly{8380416})
	differ(t, "X^255 times -2 X^255", Product(x, power(255, 1), power(255, -2)), power(254, 2))
}

func TestProductIsBackOfTimesOfThere(t *testing.T) {
	for _, x := range append(strange(), tables.Make()) {
		all := polys()
		for i, a := range all {
			b := all[(3*i+1)%len(all)]
			differ(t, "Product", Product(x, a, b), back(x, each(there(x, a), there(x, b), product)))
		}
	}
}

// P8.5

func TestSlowOfKnownPolynomials(t *testing.T) {
	cases := []struct {
		what       string
		a, b, want api.Poly
	}{
		{"0 times all", api.Poly{}, mixed(9), api.Poly{}},
		{"1 times noise", api.Poly{1}, reducedNoise(9), reducedNoise(9)},
		{"(1 + 2 X) (3 + 4 X)", api.Poly{1, 2}, api.Poly{3, 4}, api.Poly{3, 10, 8}},
		{"X times X^255", power(1, 1), power(255, 1), api.Poly{8380416}},
		{"X^255 times X", power(255, 1), power(1, 1), api.Poly{8380416}},
		{"X times X^254", power(1, 1), power(254, 1), power(255, 1)},
		{"X^128 times X^128", power(128, 1), power(128, 1), api.Poly{8380416}},
		{"X^255 times X^255", power(255, 1), power(255, 1), power(254, 8380416)},
		{"X^2 times X^255", power(2, 7), power(255, 1), power(1, 8380410)},
		{"the prime times X", api.Poly{prime}, power(1, 1), api.Poly{}},
		{"-1 times X^3", api.Poly{-1}, power(3, 2), power(3, 8380415)},
	}
	for _, c := range cases {
		differ(t, c.what, Slow(c.a, c.b), c.want)
	}
}

func TestSlowOfTheSameNumberEverywhere(t *testing.T) {
	// Of (1 + X + ..) squared, the power n has n + 1 products, and 255 - n with a minus.
	var want api.Poly
	for n := range want {
		want[n] = rest(whole(2*n - 254))
	}
	differ(t, "1 everywhere", Slow(full(1), full(1)), want)
	differ(t, "the prime - 1 everywhere", Slow(full(prime-1), full(prime-1)), want)
	differ(t, "-1 everywhere", Slow(full(-1), full(-1)), want)
}

func TestSlowOfAllPolynomials(t *testing.T) {
	all := polys()
	for i, a := range all {
		for _, b := range []api.Poly{a, all[(i+1)%len(all)], all[(5*i+3)%len(all)]} {
			differ(t, "Slow", Slow(a, b), slowly(a, b))
		}
	}
}

// P8.6

func TestBackInvertsThere(t *testing.T) {
	x := tables.Make()
	for _, p := range polys() {
		differ(t, "Back of There", Back(x, There(x, p)), least(p))
		differ(t, "There of Back", There(x, Back(x, p)), least(p))
	}
	for i := range 256 {
		differ(t, "Back of There of a power", Back(x, There(x, power(i, 1))), power(i, 1))
		differ(t, "There of Back of a power", There(x, Back(x, power(i, 1))), power(i, 1))
	}
}

// P8.7

func TestProductEqualsSlow(t *testing.T) {
	x := tables.Make()
	all := polys()
	for i, a := range all {
		for _, b := range []api.Poly{a, all[(i+1)%len(all)], all[(5*i+3)%len(all)]} {
			differ(t, "Product", Product(x, a, b), Slow(a, b))
		}
	}
	for _, i := range powers() {
		for _, j := range powers() {
			a, b := power(i, 3), power(j, -5)
			differ(t, "Product of powers", Product(x, a, b), Slow(a, b))
		}
	}
}

// P8.8

func TestTherePreservesSums(t *testing.T) {
	x := tables.Make()
	all := polys()
	for i, a := range all {
		for _, b := range []api.Poly{a, all[(i+1)%len(all)], all[(5*i+3)%len(all)]} {
			differ(t, "There of a sum", There(x, each(a, b, sum)), each(There(x, a), There(x, b), sum))
		}
	}
}

// R3

func TestWhatIsPassedRemains(t *testing.T) {
	x, a, b := tables.Make(), mixed(1), mixed(2)
	There(x, a)
	Back(x, a)
	Times(a, b)
	Product(x, a, b)
	Slow(a, b)
	if !tables.Right(x) || a != mixed(1) || b != mixed(2) {
		t.Error("a call modified its arguments")
	}
}
