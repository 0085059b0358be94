package tables

import (
	"math"
	"math/big"
	"slices"
	"testing"

	"sigil/api"
)

// P2.1

func TestPrimesReturnsTheFirstOnes(t *testing.T) {
	// The hundredth prime is 541.
	var all []int
	for x := range 542 {
		if big.NewInt(int64(x)).ProbablyPrime(20) {
			all = append(all, x)
		}
	}
	if len(all) != 100 {
		t.Fatalf("%d primes are expected; want 100", len(all))
	}
	for n := range 101 {
		if got := Primes(n); !slices.Equal(got, all[:n]) {
			t.Errorf("Primes(%d) = %v", n, got)
		}
	}
	for _, n := range []int{101, 102, 200, 1 << 40, math.MaxInt} {
		if got := Primes(n); !slices.Equal(got, all) {
			t.Errorf("Primes(%d) has %d primes, or others than the first 100", n, len(got))
		}
	}
}

func TestPrimesOfNoNumberAreNone(t *testing.T) {
	for _, n := range []int{0, -1, -100, math.MinInt} {
		if got := Primes(n); len(got) != 0 {
			t.Errorf("Primes(%d) = %v; want none", n, got)
		}
	}
}

func TestPrimesAreNewMemory(t *testing.T) {
	a := Primes(5)
	clear(a[:cap(a)])
	if b := Primes(5); !slices.Equal(b, []int{2, 3, 5, 7, 11}) {
		t.Errorf("Primes(5) = %v, after another result was changed", b)
	}
}

// P2.2

func TestRootsThatAreKnown(t *testing.T) {
	cases := []struct {
		p, power int
		want     uint64
	}{
		{0, 2, 0},
		{0, 3, 0},
		{1, 2, 0},
		{1, 3, 0},
		{2, 2, 0x6a09e667f3bcc908},
		{2, 3, 0x428a2f98d728ae22},
		{3, 2, 0xbb67ae8584caa73b},
		{3, 3, 0x7137449123ef65cd},
		{4, 2, 0},
		{8, 3, 0},
		{19, 2, 0x5be0cd19137e2179},
		{23, 2, 0xcbbb9d5dc1059ed8}, // SHA-384 starts with it
		{409, 3, 0x6c44198c4a475817},
		{961, 2, 0},
		{1000, 3, 0},
	}
	for _, c := range cases {
		if got := Root(c.p, c.power); got != c.want {
			t.Errorf("Root(%d, %d) = %x; want %x", c.p, c.power, got, c.want)
		}
	}
}

// The root with 64 bits of its fraction is the greatest number whose power is not above p times 2^(64 power).
func TestEachRootIsTheGreatestThatFits(t *testing.T) {
	for _, power := range []int{2, 3} {
		for p := range 1001 {
			whole := 0
			for x := 1; x*x <= p && (power == 2 || x*x*x <= p); x++ {
				whole = x
			}
			root := new(big.Int).Lsh(big.NewInt(int64(whole)), 64)
			root.Add(root, new(big.Int).SetUint64(Root(p, power)))
			next := new(big.Int).Add(root, big.NewInt(1))
			exponent := big.NewInt(int64(power))
			most := new(big.Int).Lsh(big.NewInt(int64(p)), uint(64*power))
			if root.Exp(root, exponent, nil).Cmp(most) > 0 || next.Exp(next, exponent, nil).Cmp(most) <= 0 {
				t.Errorf("Root(%d, %d) = %x, which is not the root's fraction", p, power, Root(p, power))
			}
		}
	}
}

func TestRootOfWrongArgumentsIsNull(t *testing.T) {
	for _, p := range []int{-1, -2, 1001, 1002, 1<<32 + 2, math.MinInt, math.MaxInt} {
		for _, power := range []int{2, 3} {
			if got := Root(p, power); got != 0 {
				t.Errorf("Root(%d, %d) = %x; want 0", p, power, got)
			}
		}
	}
	for _, power := range []int{-3, -2, -1, 0, 1, 4, 5, 1<<32 + 2, math.MinInt, math.MaxInt} {
		if got := Root(5, power); got != 0 {
			t.Errorf("Root(5, %d) = %x; want 0", power, got)
		}
	}
}

// P2.3

func TestRoundsAreThoseOfKeccak(t *testing.T) {
	want := [24]uint64{
		0x0000000000000001, 0x0000000000008082, 0x800000000000808a, 0x8000000080008000,
		0x000000000000808b, 0x0000000080000001, 0x8000000080008081, 0x8000000000008009,
		0x000000000000008a, 0x0000000000000088, 0x0000000080008009, 0x000000008000000a,
		0x000000008000808b, 0x800000000000008b, 0x8000000000008089, 0x8000000000008003,
		0x8000000000008002, 0x8000000000000080, 0x000000000000800a, 0x800000008000000a,
		0x8000000080008081, 0x8000000000008080, 0x0000000080000001, 0x8000000080008008,
	}
	if got := Rounds(); got != want {
		t.Errorf("Rounds() = %x", got)
	}
}

// P2.4

func TestPowerIsModuloPrime(t *testing.T) {
	cases := []struct{ x, n, want int }{
		{0, 0, 1},
		{0, 1, 0},
		{0, 5, 0},
		{1, 0, 1},
		{7, 0, 1},
		{7, 1, 7},
		{2, 10, 1024},
		{2, 23, 8191}, // Prime is 2^23 - 2^13 + 1
		{1753, 1, 1753},
		{1753, 2, 3073009},
		{api.Prime - 1, 2, 1},
		{api.Prime - 1, 3, api.Prime - 1},
		{api.Prime, 0, 1},
		{api.Prime, 1, 0},
		{api.Prime + 3, 2, 9},
		{3, api.Prime - 1, 1},
		{3, api.Prime, 3},
	}
	for _, c := range cases {
		if got := Power(c.x, c.n); got != c.want {
			t.Errorf("Power(%d, %d) = %d; want %d", c.x, c.n, got, c.want)
		}
	}
}

func TestPowerEqualsThatOfLargeNumbers(t *testing.T) {
	some := []int{0, 1, 2, 3, 17, 255, 256, 1753, api.Prime - 2, api.Prime - 1, api.Prime, api.Prime + 1, 1 << 31, 1<<31 + 1, 1 << 32, api.MaxInt, math.MaxInt - 1, math.MaxInt}
	for _, x := range some {
		for _, n := range some {
			want := new(big.Int).Exp(big.NewInt(int64(x)), big.NewInt(int64(n)), big.NewInt(api.Prime))
			if got := Power(x, n); int64(got) != want.Int64() {
				t.Errorf("Power(%d, %d) = %d; want %d", x, n, got, want)
			}
		}
	}
}

func TestPowerOfNegativeNumbersIsNull(t *testing.T) {
	for _, c := range [][2]int{{-1, 0}, {-1, 2}, {2, -1}, {0, -1}, {1, -1}, {-1, -1}, {-api.Prime, 1}, {math.MinInt, 1}, {1, math.MinInt}, {math.MinInt, math.MinInt}, {math.MaxInt, -1}, {-1, math.MaxInt}} {
		if got := Power(c[0], c[1]); got != 0 {
			t.Errorf("Power(%d, %d) = %d; want 0", c[0], c[1], got)
		}
	}
}

// P2.5

func TestMakeHasTheWordsOfTheHashes(t *testing.T) {
	x := Make()
	primes := Primes(80)
	for i, p := range primes {
		if want := Root(p, 3); x.Large[i] != want {
			t.Errorf("Large[%d] = %x; want %x", i, x.Large[i], want)
		}
	}
	for i, got := range x.Small {
		if want := uint32(Root(primes[i], 3) >> 32); got != want {
			t.Errorf("Small[%d] = %x; want %x", i, got, want)
		}
	}
	starts := [8]uint64{
		0x6a09e667f3bcc908, 0xbb67ae8584caa73b, 0x3c6ef372fe94f82b, 0xa54ff53a5f1d36f1,
		0x510e527fade682d1, 0x9b05688c2b3e6c1f, 0x1f83d9abfb41bd6b, 0x5be0cd19137e2179,
	}
	if x.LargeStart != starts {
		t.Errorf("LargeStart = %x", x.LargeStart)
	}
	if want := [8]uint32{0x6a09e667, 0xbb67ae85, 0x3c6ef372, 0xa54ff53a, 0x510e527f, 0x9b05688c, 0x1f83d9ab, 0x5be0cd19}; x.SmallStart != want {
		t.Errorf("SmallStart = %x", x.SmallStart)
	}
	if x.Small[0] != 0x428a2f98 || x.Small[63] != 0xc67178f2 || x.Large[0] != 0x428a2f98d728ae22 || x.Large[79] != 0x6c44198c4a475817 {
		t.Errorf("Small is from %x to %x, Large from %x to %x", x.Small[0], x.Small[63], x.Large[0], x.Large[79])
	}
}

func TestMakeHasTheNumbersOfKeccak(t *testing.T) {
	x := Make()
	if x.Rounds != Rounds() {
		t.Errorf("Rounds = %x", x.Rounds)
	}
	want := [25]int{
		0, 1, 62, 28, 27,
		36, 44, 6, 55, 20,
		3, 10, 43, 25, 39,
		41, 45, 15, 21, 8,
		18, 2, 61, 56, 14,
	}
	if x.Turns != want {
		t.Errorf("Turns = %v", x.Turns)
	}
}

func TestMakeHasTheRootsOfTheRing(t *testing.T) {
	x := Make()
	first := []int{1, 4808194, 3765607, 3761513, 5178923, 5496691, 5234739, 5178987, 7778734, 3542485, 2682288, 2129892, 3764867, 7375178, 557458, 7159240}
	if !slices.Equal(x.Zetas[:16], first) {
		t.Errorf("Zetas begins with %v", x.Zetas[:16])
	}
	for i, got := range x.Zetas {
		exponent := 0
		for k := range 8 {
			exponent = exponent*2 + i>>k&1
		}
		want := new(big.Int).Exp(big.NewInt(1753), big.NewInt(int64(exponent)), big.NewInt(8380417))
		if int64(got) != want.Int64() {
			t.Errorf("Zetas[%d] = %d; want %d", i, got, want)
		}
	}
}

// P2.6

func TestRightAcceptsTheTables(t *testing.T) {
	if !Right(Make()) {
		t.Error("the tables that Make returns are rejected")
	}
}

func TestRightRejectsEachOtherNumber(t *testing.T) {
	x := Make()
	rejected := func(what string, i int) {
		t.Helper()
		if Right(x) {
			t.Errorf("tables with another %s[%d] are accepted", what, i)
		}
	}
	for i := range x.Small {
		x.Small[i] ^= 1 << 31
		rejected("Small", i)
		x.Small[i] ^= 1 << 31
	}
	for i := range x.SmallStart {
		x.SmallStart[i]++
		rejected("SmallStart", i)
		x.SmallStart[i]--
	}
	for i := range x.Large {
		x.Large[i] ^= 1
		rejected("Large", i)
		x.Large[i] ^= 1
	}
	for i := range x.LargeStart {
		x.LargeStart[i] ^= 1 << 63
		rejected("LargeStart", i)
		x.LargeStart[i] ^= 1 << 63
	}
	for i := range x.Rounds {
		x.Rounds[i]--
		rejected("Rounds", i)
		x.Rounds[i]++
	}
	for i := range x.Turns {
		// A rotation by 64 more is the same one, but another number.
		x.Turns[i] += 64
		rejected("Turns", i)
		x.Turns[i] -= 64
	}
	for i := range x.Zetas {
		x.Zetas[i] += api.Prime
		rejected("Zetas", i)
		x.Zetas[i] -= api.Prime
	}
	if !Right(x) {
		t.Error("the tables are rejected after all changes were undone")
	}
	if Right(api.Tables{}) {
		t.Error("empty tables are accepted")
	}
}

// P2.7

func TestZetasAreRootsOfUnity(t *testing.T) {
	x := Make()
	seen := map[int]int{}
	for i, z := range x.Zetas {
		if z < 0 || z >= api.Prime {
			t.Errorf("Zetas[%d] = %d is not reduced", i, z)
		}
		if got := Power(z, 512); got != 1 {
			t.Errorf("Zetas[%d] to the power 512 is %d; want 1", i, got)
		}
		if k, there := seen[z]; there {
			t.Errorf("Zetas[%d] and Zetas[%d] are both %d", k, i, z)
		}
		seen[z] = i
	}
}

func TestOddPowersAreRootsOfMinusOne(t *testing.T) {
	for n := 1; n < 1200; n += 2 {
		if got := Power(Power(1753, n), 256); got != api.Prime-1 {
			t.Errorf("1753 to the power %d, to the power 256, is %d; want -1", n, got)
		}
	}
	if got := Power(Power(1753, math.MaxInt), 256); got != api.Prime-1 {
		t.Errorf("the greatest odd power of 1753, to the power 256, is %d; want -1", got)
	}
}

// R4

func TestMakeAlwaysReturnsTheSame(t *testing.T) {
	a := Make()
	a.Small[0]++
	a.Rounds[0]++
	a.Zetas[0]++
	if b := Make(); b == a || b.Small[0] != 0x428a2f98 || b.Rounds[0] != 1 || b.Zetas[0] != 1 {
		t.Error("a change of one result is seen in the next one")
	}
}

func BenchmarkRight(b *testing.B) {
	x := Make()
	for b.Loop() {
		Right(x)
	}
}
