package sample

import (
	"crypto/mldsa"
	"crypto/sha3"
	"math"
	"math/big"
	"slices"
	"strings"
	"testing"

	"sigil/api"
	"sigil/bits"
	"sigil/field"
	"sigil/ntt"
	"sigil/round"
	"sigil/sponge"
	"sigil/tables"
)

const prime = 8380417

// noise returns the number n of a sequence without a pattern, from all ints.
func noise(n int) int {
	x := uint64(n)*0x9e3779b97f4a7c15 + 0xd1b54a32d192ed03
	x = (x ^ x>>30) * 0xbf58476d1ce4e5b9
	x = (x ^ x>>27) * 0x94d049bb133111eb
	return int(x ^ x>>31)
}

// noiseBytes returns bytes without a pattern.
func noiseBytes(n, count int) string {
	b := make([]byte, count)
	for i := range b {
		b[i] = byte(noise(n*5000 + i))
	}
	return string(b)
}

// counting returns the bytes 0, 1, ..., 31.
func counting() string {
	b := make([]byte, 32)
	for i := range b {
		b[i] = byte(i)
	}
	return string(b)
}

// seeds returns seeds, among them those with lengths about the rates of both sponges.
func seeds() []string {
	all := []string{"", "a", "seed", "\x00", "\xff\xfe", counting()}
	for n, count := range []int{32, 34, 64, 66, 133, 134, 135, 136, 137, 165, 166, 167, 168, 169, 272, 336, 1000, 4096} {
		all = append(all, noiseBytes(n, count))
	}
	return all
}

// allTables returns the right tables, and others.
func allTables() []api.Tables {
	rounds, turns, right := tables.Make(), tables.Make(), tables.Make()
	rounds.Rounds[3] ^= 1 << 40
	turns.Turns[7] += 5
	return []api.Tables{right, rounds, turns, {}}
}

// sets returns valid lattice parameters: those of the kinds, and others with as few and as many polynomials as may be.
func sets() []api.Lattice {
	var all []api.Lattice
	for kind := 1; kind <= 4; kind++ {
		p, _ := round.Set(kind)
		all = append(all, p)
	}
	return append(all,
		api.Lattice{K: 8, L: 8, Eta: 4, Tau: 64, Gamma1: 131072, Gamma2: 261888, Omega: 100, Lambda: 192},
		api.Lattice{K: 1, L: 8, Eta: 2, Tau: 1, Gamma1: 524288, Gamma2: 95232, Omega: 1, Lambda: 256},
		api.Lattice{K: 8, L: 1, Eta: 4, Tau: 1, Gamma1: 524288, Gamma2: 95232, Omega: 1, Lambda: 128},
		api.Lattice{K: 2, L: 3, Eta: 2, Tau: 5, Gamma1: 131072, Gamma2: 95232, Omega: 7, Lambda: 128})
}

// wrongSets returns lattice parameters of which one is not valid.
func wrongSets() []api.Lattice {
	all := []api.Lattice{{}}
	change := func(f func(p *api.Lattice)) {
		p, _ := round.Set(1)
		f(&p)
		all = append(all, p)
	}
	for _, n := range []int{0, -1, 101, 1<<32 + 2, math.MaxInt, math.MinInt} {
		change(func(p *api.Lattice) { p.K = n })
		change(func(p *api.Lattice) { p.L = n })
		change(func(p *api.Lattice) { p.Eta = n })
		change(func(p *api.Lattice) { p.Tau = n })
		change(func(p *api.Lattice) { p.Gamma1 = n })
		change(func(p *api.Lattice) { p.Gamma2 = n })
		change(func(p *api.Lattice) { p.Omega = n })
		change(func(p *api.Lattice) { p.Lambda = n })
	}
	change(func(p *api.Lattice) { p.K = 9 })
	change(func(p *api.Lattice) { p.L = 9 })
	change(func(p *api.Lattice) { p.Eta = 3 })
	change(func(p *api.Lattice) { p.Tau = 65 })
	change(func(p *api.Lattice) { p.Gamma1 = 131071 })
	change(func(p *api.Lattice) { p.Gamma1 = 262144 })
	return all
}

// full returns a polynomial with the same coefficient everywhere.
func full(x int) api.Poly {
	var p api.Poly
	for i := range p {
		p[i] = x
	}
	return p
}

// modulo returns the number from 0 to the prime - 1 that is congruent to x.
func modulo(x int) int {
	return ((x % prime) + prime) % prime
}

// centred returns the reduced coefficients of p, those above half of the prime as negative numbers.
func centred(p api.Poly) api.Poly {
	for i, x := range p {
		if x > prime/2 {
			p[i] = x - prime
		}
	}
	return p
}

// firstOf returns the polynomial of the first numbers of l, reduced; the coefficients without a number are 0.
func firstOf(l []int) api.Poly {
	var p api.Poly
	for i := range min(len(l), 256) {
		p[i] = modulo(l[i])
	}
	return p
}

// uniformOf is Uniform of output, as the chapter tells it.
func uniformOf(b string) api.Poly {
	var l []int
	for i := 0; i+3 <= len(b); i += 3 {
		if n := int(b[i]) + 256*int(b[i+1]) + 65536*(int(b[i+2])%128); n < prime {
			l = append(l, n)
		}
	}
	return firstOf(l)
}

// halves returns the coefficient of each half of a byte from 0 on; the others have none.
func halves(eta int) []int {
	if eta == 2 {
		return []int{2, 1, 0, -1, -2, 2, 1, 0, -1, -2, 2, 1, 0, -1, -2}
	}
	return []int{4, 3, 2, 1, 0, -1, -2, -3, -4}
}

// smallOfBytes is Small of output, as the chapter tells it.
func smallOfBytes(b string, eta int) api.Poly {
	of := halves(eta)
	var l []int
	for i := range 2 * len(b) {
		half := int(b[i/2]) % 16
		if i%2 == 1 {
			half = int(b[i/2]) / 16
		}
		if half < len(of) {
			l = append(l, of[half])
		}
	}
	return firstOf(l)
}

// ballOf is Ball of output, as the chapter tells it.
func ballOf(b string, tau int) api.Poly {
	var signs []int
	for _, x := range []byte(b[:8]) {
		for n := 1; n < 256; n *= 2 {
			signs = append(signs, 1-int(x)/n%2*2)
		}
	}
	var p api.Poly
	rest := []byte(b[8:])
	for i := 256 - tau; i <= 255; i++ {
		next := slices.IndexFunc(rest, func(x byte) bool { return int(x) <= i })
		if next < 0 {
			break
		}
		k := rest[next]
		rest = rest[next+1:]
		p[i] = p[k]
		p[k] = modulo(signs[i+tau-256])
	}
	return p
}

// maskOf is a polynomial of Masks of output: the differences of gamma and the numbers of so many bits each of one large number.
func maskOf(b string, gamma int) api.Poly {
	bytes := []byte(b)
	slices.Reverse(bytes)
	all := new(big.Int).SetBytes(bytes)
	var p api.Poly
	for i := range p {
		rest := new(big.Int)
		all.DivMod(all, big.NewInt(int64(2*gamma)), rest)
		p[i] = modulo(gamma - int(rest.Int64()))
	}
	return p
}

// shake128 and shake256 return output of Go's own SHAKE.
func shake128(seed string, n int) string {
	return string(sha3.SumSHAKE128([]byte(seed), n))
}

func shake256(seed string, n int) string {
	return string(sha3.SumSHAKE256([]byte(seed), n))
}

// same reports if p is not the polynomial that is wanted.
func same(t *testing.T, what string, p, want api.Poly) {
	t.Helper()
	if p != want {
		t.Errorf("%s = %v; want %v", what, centred(p), centred(want))
	}
}

// begins reports if the centred coefficients of p do not begin and end like this, or if another number is the sum of them, each times its index plus 1.
func begins(t *testing.T, what string, p api.Poly, first, last []int, sum int) {
	t.Helper()
	p = centred(p)
	got := 0
	for i, x := range p {
		got += (i + 1) * x
	}
	if !slices.Equal(p[:len(first)], first) || !slices.Equal(p[256-len(last):], last) || got != sum {
		t.Errorf("%s = %v, with the sum %d; want %v, .., %v, with the sum %d", what, p, got, first, last, sum)
	}
}

// P11.1

// number returns n in three bytes, the least one first.
func number(n int) string {
	return string([]byte{byte(n), byte(n >> 8), byte(n >> 16)})
}

// numbers returns many times n in three bytes each.
func numbers(n, many int) string {
	return strings.Repeat(number(n), many)
}

func TestUniformIsThatOfGosShake(t *testing.T) {
	x := tables.Make()
	for _, seed := range seeds() {
		same(t, "Uniform", Uniform(x, seed), uniformOf(shake128(seed, 1008)))
	}
}

func TestUniformWithOtherTables(t *testing.T) {
	for _, x := range allTables() {
		for _, seed := range seeds() {
			b, _ := sponge.Shake(x, api.Shake128, seed, 1008)
			same(t, "Uniform", Uniform(x, seed), uniformOf(b))
		}
	}
}

func TestUniformTakesThreeBytesForANumber(t *testing.T) {
	cases := []struct {
		b    string
		want api.Poly
	}{
		{"", api.Poly{}},
		{"\x01\x00", api.Poly{}},
		{"\x01\x00\x00", api.Poly{1}},
		{"\x01\x00\x00\x02\x00", api.Poly{1}},
		{"\x00\x01\x00", api.Poly{256}},
		{"\x00\x00\x01", api.Poly{65536}},
		{"\x03\x02\x01\x06\x05\x04", api.Poly{0x010203, 0x040506}},
		{"\x00\x00\x80", api.Poly{}},
		{"\x07\x00\x80", api.Poly{7}},
		{"\x03\x02\x81", api.Poly{0x010203}},
		{number(prime - 1), api.Poly{prime - 1}},
		{number(prime-1+1<<23) + number(5), api.Poly{prime - 1, 5}},
		{number(0) + number(5), api.Poly{0, 5}},
		{number(prime) + number(5), api.Poly{5}},
		{number(prime+1<<23) + number(5), api.Poly{5}},
		{number(prime+1) + number(5), api.Poly{5}},
		{number(1<<23-1) + number(5), api.Poly{5}},
		{number(1<<24-1) + number(5) + number(prime) + number(6), api.Poly{5, 6}},
	}
	for _, c := range cases {
		same(t, "uniform", uniform(c.b), c.want)
	}
}

func TestUniformEndsWithItsCoefficients(t *testing.T) {
	last := full(5)
	last[255] = 6
	missing := full(5)
	missing[255] = 0
	cases := []struct {
		b    string
		want api.Poly
	}{
		{numbers(5, 336), full(5)},
		{numbers(5, 256) + numbers(6, 80), full(5)},
		{numbers(5, 255) + numbers(6, 81), last},
		{numbers(prime, 80) + numbers(5, 255) + number(6), last},
		{numbers(5, 255) + numbers(prime, 80) + number(6), last},
		{numbers(5, 255) + numbers(prime, 81), missing},
		{numbers(prime, 81) + numbers(5, 255), missing},
		{numbers(prime, 335) + number(6), api.Poly{6}},
		{numbers(prime, 336), api.Poly{}},
	}
	for _, c := range cases {
		same(t, "uniform", uniform(c.b), c.want)
	}
}

// P11.2

func TestSmallIsThatOfGosShake(t *testing.T) {
	x := tables.Make()
	for _, seed := range seeds() {
		for _, eta := range []int{2, 4} {
			same(t, "Small", Small(x, seed, eta), smallOfBytes(shake256(seed, 816), eta))
		}
	}
}

func TestSmallWithOtherTables(t *testing.T) {
	for _, x := range allTables() {
		for _, seed := range seeds() {
			b, _ := sponge.Shake(x, api.Shake256, seed, 816)
			same(t, "Small", Small(x, seed, 2), smallOfBytes(b, 2))
			same(t, "Small", Small(x, seed, 4), smallOfBytes(b, 4))
		}
	}
}

func TestSmallOfAnyOtherEtaIsThatOf4(t *testing.T) {
	x := tables.Make()
	for _, eta := range []int{0, 1, 3, 5, 8, 15, 16, -1, -2, -4, 256, 1<<32 + 2, math.MaxInt, math.MinInt, math.MinInt + 2} {
		for _, seed := range seeds()[:4] {
			same(t, "Small", Small(x, seed, eta), Small(x, seed, 4))
		}
	}
}

func TestSmallTakesTheLowHalfFirst(t *testing.T) {
	for low := range 16 {
		for high := range 16 {
			for _, eta := range []int{2, 4, 3} {
				of, l := halves(eta), []int{}
				for _, half := range []int{low, high, 1} {
					if half < len(of) {
						l = append(l, of[half])
					}
				}
				b := string([]byte{byte(low + 16*high), 0xf1})
				same(t, "small", small(b, eta), firstOf(l))
			}
		}
	}
}

func TestSmallOfKnownBytes(t *testing.T) {
	same(t, "small", small("", 2), api.Poly{})
	same(t, "small", small("\x10\x32\x54\xf6", 2), api.Poly{2, 1, 0, prime - 1, prime - 2, 2, 1})
	same(t, "small", small("\xde\xcf\xfa", 2), api.Poly{prime - 2, prime - 1, 0, 2})
	same(t, "small", small("\x10\x32\x54\x76\xf8", 4), api.Poly{4, 3, 2, 1, 0, prime - 1, prime - 2, prime - 3, prime - 4})
	same(t, "small", small("\x9f\x1a\xeb\xdc", 4), api.Poly{3})
}

func TestSmallEndsWithItsCoefficients(t *testing.T) {
	for _, eta := range []int{2, 4} {
		most := halves(eta)[0]
		last := full(most)
		last[255] = most - 1
		missing := full(most)
		missing[255] = 0
		// Each byte 0 gives two coefficients, 0xf0 one, and 0xff none.
		cases := []struct {
			b    string
			want api.Poly
		}{
			{strings.Repeat("\x00", 816), full(most)},
			{strings.Repeat("\x00", 128) + strings.Repeat("\x11", 688), full(most)},
			{strings.Repeat("\x00", 127) + "\x10" + strings.Repeat("\x22", 688), last},
			{strings.Repeat("\xf0", 255) + "\x21" + strings.Repeat("\x22", 560), last},
			{strings.Repeat("\xff", 560) + strings.Repeat("\xf0", 255) + "\x1f", last},
			{strings.Repeat("\x00", 127) + "\xf0" + strings.Repeat("\xff", 687) + "\x1f", last},
			{strings.Repeat("\x00", 127) + "\xf0" + strings.Repeat("\xff", 688), missing},
			{strings.Repeat("\xff", 561) + strings.Repeat("\xf0", 255), missing},
			{strings.Repeat("\xff", 815) + "\x1f", api.Poly{modulo(most - 1)}},
			{strings.Repeat("\xff", 816), api.Poly{}},
		}
		for _, c := range cases {
			same(t, "small", small(c.b, eta), c.want)
		}
	}
}

// P11.3

func TestBallIsThatOfGosShake(t *testing.T) {
	x := tables.Make()
	for _, seed := range seeds() {
		for tau := 1; tau <= 64; tau++ {
			same(t, "Ball", Ball(x, seed, tau), ballOf(shake256(seed, 544), tau))
		}
	}
}

func TestBallWithOtherTables(t *testing.T) {
	for _, x := range allTables() {
		for _, seed := range seeds() {
			b, _ := sponge.Shake(x, api.Shake256, seed, 544)
			same(t, "Ball", Ball(x, seed, 20), ballOf(b, 20))
			same(t, "Ball", Ball(x, seed, 64), ballOf(b, 64))
		}
	}
}

func TestBallWithoutAValidTau(t *testing.T) {
	for _, x := range []api.Tables{tables.Make(), {}} {
		for _, tau := range []int{0, -1, -39, 65, 66, 255, 256, 257, 1<<32 + 39, math.MaxInt, math.MinInt, math.MinInt + 39} {
			same(t, "Ball without a valid tau", Ball(x, "seed", tau), api.Poly{})
		}
	}
}

func TestBallOfMadeUpBytes(t *testing.T) {
	none, all := strings.Repeat("\x00", 8), strings.Repeat("\xff", 8)
	minus := prime - 1
	cases := []struct {
		what string
		b    string
		tau  int
		want api.Poly
	}{
		{"one index", none + "\x07", 1, api.Poly{7: 1}},
		{"one index, with a sign", all + "\x07", 1, api.Poly{7: minus}},
		{"the last index", none + "\xff", 1, api.Poly{255: 1}},
		{"the least index", none + "\x00", 1, api.Poly{0: 1}},
		{"only so many indices", none + "\x07\x08", 1, api.Poly{7: 1}},
		{"an index that is i", none + "\xfe\xff", 2, api.Poly{254: 1, 255: 1}},
		{"an index above i", none + "\xff\x07\x08", 2, api.Poly{7: 1, 8: 1}},
		{"an index above i that comes later", none + "\xff\x07\xff", 2, api.Poly{7: 1, 255: 1}},
		{"the same index again", none + "\x07\x07", 2, api.Poly{7: 1, 255: 1}},
		{"the same index again, with the first sign", "\x01" + none[1:] + "\x07\x07", 2, api.Poly{7: 1, 255: minus}},
		{"the same index again, with the second sign", "\x02" + none[1:] + "\x07\x07", 2, api.Poly{7: minus, 255: 1}},
		{"an index that was i", none + "\x07\xfd", 2, api.Poly{7: 1, 253: 1}},
		{"an index that took another's coefficient", "\x01" + none[1:] + "\x07\x07\xfe", 3, api.Poly{7: 1, 254: 1, 255: minus}},
		{"signs of one byte", "\xa5" + none[1:] + "\x00\x01\x02\x03\x04\x05\x06\x07", 8, api.Poly{minus, 1, minus, 1, 1, minus, 1, minus}},
		{"a sign of the second byte", "\x00\x01" + none[2:] + "\x00\x01\x02\x03\x04\x05\x06\x07\x08\x09", 10, api.Poly{1, 1, 1, 1, 1, 1, 1, 1, minus, 1}},
		{"signs that are not used", "\xfe" + all[1:] + "\x07", 1, api.Poly{7: 1}},
		{"no index", none, 5, api.Poly{}},
		{"no index that is not above i", none + "\xff\xfe", 3, api.Poly{}},
		{"too few indices", all + "\x07\x08", 5, api.Poly{7: minus, 8: minus}},
		{"too few indices, after one that is above i", none + "\xfb\x07\xff\xff", 5, api.Poly{7: 1, 251: 1}},
	}
	for _, c := range cases {
		same(t, c.what, ball(c.b, c.tau), c.want)
		same(t, c.what+", otherwise", ballOf(c.b, c.tau), c.want)
	}
}

func TestBallWithAllSigns(t *testing.T) {
	indices := counting() + counting()
	for n := range 64 {
		signs := make([]byte, 8)
		signs[n/8] = 1 << (n % 8)
		b := string(signs) + indices
		p := ball(b, 64)
		same(t, "ball", p, ballOf(b, 64))
		if count(p, prime-1) != 1 || count(p, 1) != 63 {
			t.Errorf("with the sign bit %d there are %d coefficients -1, and %d are 1", n, count(p, prime-1), count(p, 1))
		}
	}
}

func TestBallThatTakesTheLastByte(t *testing.T) {
	for _, tau := range []int{2, 3, 39, 64} {
		few := strings.Repeat("\x03", tau-1)
		// Before the last coefficient, no index may be 255.
		skipped := strings.Repeat("\xff", 544-8-len(few)-1)
		for _, last := range []string{"\x05", ""} {
			p := ball(strings.Repeat("\x00", 8)+skipped+few+last, tau)
			if n, want := count(p, 1), tau-1+len(last); n != want || p[5] != len(last) {
				t.Errorf("with tau %d, %d coefficients are 1, that at 5 is %d; want %d, and %d", tau, n, p[5], want, len(last))
			}
		}
	}
}

// count returns how many coefficients of p are x.
func count(p api.Poly, x int) int {
	n := 0
	for _, c := range p {
		if c == x {
			n++
		}
	}
	return n
}

// P11.4

func TestMatrixIsUniformOfColumnAndRow(t *testing.T) {
	x := tables.Make()
	for _, p := range sets() {
		for _, rho := range []string{"", "rho", counting(), noiseBytes(3, 166)} {
			m := Matrix(x, p, rho)
			if len(m) != p.K {
				t.Fatalf("Matrix of %v has %d rows", p, len(m))
			}
			for r, row := range m {
				if len(row) != p.L {
					t.Fatalf("row %d of Matrix of %v has %d polynomials", r, p, len(row))
				}
				for s := range row {
					seed := rho + string([]byte{byte(s), byte(r)})
					same(t, "a polynomial of Matrix", row[s], uniformOf(shake128(seed, 1008)))
				}
			}
		}
	}
}

func TestMatrixWithOtherTables(t *testing.T) {
	p, _ := round.Set(2)
	for _, x := range allTables() {
		m := Matrix(x, p, "rho")
		same(t, "the first polynomial of Matrix", m[0][0], Uniform(x, "rho\x00\x00"))
		same(t, "the last polynomial of Matrix", m[5][4], Uniform(x, "rho\x04\x05"))
	}
}

func TestMatrixWithoutAValidSet(t *testing.T) {
	for _, p := range wrongSets() {
		if m := Matrix(tables.Make(), p, "rho"); len(m) != 0 {
			t.Errorf("Matrix of %v has %d rows", p, len(m))
		}
	}
}

// P11.5

func TestSecretsAreSmallOfTheirNumbers(t *testing.T) {
	x := tables.Make()
	for _, p := range sets() {
		for _, seed := range []string{"", "seed", counting(), noiseBytes(4, 64), noiseBytes(5, 134)} {
			first, second := Secrets(x, p, seed)
			if len(first) != p.L || len(second) != p.K {
				t.Fatalf("Secrets of %v are %d and %d", p, len(first), len(second))
			}
			for r, s := range slices.Concat(first, second) {
				b := shake256(seed+string([]byte{byte(r), 0}), 816)
				same(t, "a polynomial of Secrets", s, smallOfBytes(b, p.Eta))
			}
		}
	}
}

func TestSecretsWithOtherTables(t *testing.T) {
	p, _ := round.Set(2)
	for _, x := range allTables() {
		first, second := Secrets(x, p, "seed")
		same(t, "the first polynomial of Secrets", first[0], Small(x, "seed\x00\x00", 4))
		same(t, "the last polynomial of Secrets", second[5], Small(x, "seed\x0a\x00", 4))
	}
}

func TestSecretsWithoutAValidSet(t *testing.T) {
	for _, p := range wrongSets() {
		if first, second := Secrets(tables.Make(), p, "seed"); len(first) != 0 || len(second) != 0 {
			t.Errorf("Secrets of %v are %d and %d", p, len(first), len(second))
		}
	}
}

func TestMatrixAndSecretsMakeGosPublicKey(t *testing.T) {
	for kind, params := range []mldsa.Parameters{mldsa.MLDSA44(), mldsa.MLDSA65(), mldsa.MLDSA87()} {
		p, _ := round.Set(kind + 1)
		for n := range 3 {
			seed := noiseBytes(n, 32)
			key, err := mldsa.NewPrivateKey(params, []byte(seed))
			if err != nil {
				t.Fatal(err)
			}
			if got := publicOf(p, seed); got != string(key.PublicKey().Bytes()) {
				t.Errorf("the public key of kind %d begins with %x; want %x", kind+1, got[:64], key.PublicKey().Bytes()[:64])
			}
		}
	}
}

// publicOf returns the public key of a seed: rho, and the high parts of the matrix times the first secrets plus the second ones.
func publicOf(p api.Lattice, seed string) string {
	x := tables.Make()
	b := shake256(seed+string([]byte{byte(p.K), byte(p.L)}), 128)
	m := Matrix(x, p, b[:32])
	first, second := Secrets(x, p, b[32:96])
	out := b[:32]
	for r := range m {
		var sum api.Poly
		for s := range first {
			sum = field.Add(sum, ntt.Times(m[r][s], ntt.There(x, first[s])))
		}
		high, _ := round.Split(field.Add(ntt.Back(x, sum), second[r]))
		text, _ := bits.Pack(high, 1023)
		out += text
	}
	return out
}

// P11.6

func TestMasksAreThoseOfGosShake(t *testing.T) {
	x := tables.Make()
	for _, p := range sets() {
		size := 576
		if p.Gamma1 == 524288 {
			size = 640
		}
		for _, from := range []int{0, 1, 7, 250, 255, 256, 257, 511, 512, 64999, 65000} {
			for _, seed := range []string{"", "seed", noiseBytes(6, 64), noiseBytes(7, 134)} {
				l := Masks(x, p, seed, from)
				if len(l) != p.L {
					t.Fatalf("Masks of %v from %d are %d", p, from, len(l))
				}
				for r := range l {
					n := from + r
					b := shake256(seed+string([]byte{byte(n % 256), byte(n / 256)}), size)
					same(t, "a polynomial of Masks", l[r], maskOf(b, p.Gamma1))
				}
			}
		}
	}
}

func TestMasksWithOtherTables(t *testing.T) {
	p, _ := round.Set(1)
	for _, x := range allTables() {
		l := Masks(x, p, "seed", 254)
		for r, ends := range []string{"\xfe\x00", "\xff\x00", "\x00\x01", "\x01\x01"} {
			b, _ := sponge.Shake(x, api.Shake256, "seed"+ends, 576)
			same(t, "a polynomial of Masks", l[r], maskOf(b, 131072))
		}
	}
}

func TestMasksFromANumberThatIsNotValid(t *testing.T) {
	for _, p := range sets() {
		for _, from := range []int{-1, -7, -256, 65001, 65535, 65536, 65537, 1 << 32, 1<<32 + 1, math.MaxInt, math.MinInt, math.MinInt + 1} {
			if l := Masks(tables.Make(), p, "seed", from); len(l) != 0 {
				t.Errorf("Masks of %v from %d are %d", p, from, len(l))
			}
		}
	}
}

func TestMasksWithoutAValidSet(t *testing.T) {
	for _, p := range wrongSets() {
		for _, from := range []int{0, 1, 65000, -1} {
			if l := Masks(tables.Make(), p, "seed", from); len(l) != 0 {
				t.Errorf("Masks of %v from %d are %d", p, from, len(l))
			}
		}
	}
}

// P11.1 to P11.6: what Python's hashlib and long numbers give

func TestKnownPolynomials(t *testing.T) {
	x := tables.Make()
	p, _ := round.Set(1)
	q, _ := round.Set(2)
	begins(t, "Uniform", Uniform(x, ""), []int{2858111, 1042596, -1991295, -3119777, 329078}, []int{2182175, -4165387, 4137769}, -3730137335)
	begins(t, "Uniform", Uniform(x, "seed"), []int{1270309, 1202247, 1930818, 2553905, -693319}, []int{-2493685, -1262404, 1950171}, -2850502732)
	begins(t, "Uniform", Uniform(x, counting()), []int{3566086, -661988, -3246345, 2867405, 663845}, []int{709872, 3789542, 2731579}, 8556574733)
	begins(t, "Small", Small(x, "", 2), []int{1, -2, -2, 1, -1, -1, 1, 0}, []int{1, -2, -2, 1, -1}, 1254)
	begins(t, "Small", Small(x, counting(), 2), []int{-2, 1, 2, 0, 0, -1, -1, 2}, []int{-2, 1, 0, 2, 1}, -14)
	begins(t, "Small", Small(x, "", 4), []int{-2, 0, 2, 4, -4, -4, 1, 3}, []int{1, 4, 4, -3, -1}, -2155)
	begins(t, "Small", Small(x, counting(), 4), []int{-2, 4, -3, -4, -4, 4, 0, 4}, []int{1, -4, -4, 4, -1}, 2708)
	begins(t, "Ball", Ball(x, "seed", 1), []int{0, 0, 0, 0, 0, 0}, []int{0, 0, 0, 0, 0, 0}, -62)
	begins(t, "Ball", Ball(x, "seed", 20), []int{0, 0, 0, 0, 0, 0}, []int{0, 0, 0, 0, 0, 0}, 68)
	begins(t, "Ball", Ball(x, "seed", 39), []int{0, 0, 0, 0, 0, 0}, []int{0, 0, 0, 0, -1, 1}, 418)
	begins(t, "Ball", Ball(x, "seed", 64), []int{0, 1, 0, 0, 0, 1}, []int{0, 0, 1, 0, 1, 0}, -206)
	begins(t, "Matrix", Matrix(x, p, "rho")[1][2], []int{-437076, -827358, -1402988, 2764949, 1190675}, []int{787279, -1462124, -2121684}, -3627091853)
	first, second := Secrets(x, q, "seed")
	begins(t, "first[4]", first[4], []int{1, -3, -3, -4, -2}, []int{4, 2, 0}, -8107)
	begins(t, "second[5]", second[5], []int{1, 0, -2, 3, 2}, []int{0, 4, 2}, 3575)
	begins(t, "Masks", Masks(x, p, "seed", 254)[3], []int{-67396, -41715, -75780, -11875, -1297}, []int{88712, -51433, 25145}, -78153171)
	begins(t, "Masks", Masks(x, q, "seed", 65000)[4], []int{32185, 203937, 444646, -249322, -291884}, []int{38139, 374610, 20441}, -115746792)
}

// P11.7

func TestResultsAreValid(t *testing.T) {
	for _, x := range allTables() {
		for _, seed := range seeds() {
			for _, p := range []api.Poly{Uniform(x, seed), Small(x, seed, 2), Small(x, seed, 4), Ball(x, seed, 64), Ball(x, seed, 0)} {
				if !field.Right(p) {
					t.Errorf("%v is not valid", p)
				}
			}
		}
		for _, p := range sets() {
			all := Masks(x, p, "seed", 65000)
			first, second := Secrets(x, p, "seed")
			all = slices.Concat(all, first, second, slices.Concat(Matrix(x, p, "seed")...))
			for _, p := range all {
				if !field.Right(p) {
					t.Errorf("%v is not valid", p)
				}
			}
		}
	}
}

func TestSmallIsBoundedByEta(t *testing.T) {
	for _, x := range allTables() {
		for _, seed := range seeds() {
			for _, eta := range []int{2, 4} {
				if n := field.Size([]api.Poly{Small(x, seed, eta)}); n > eta {
					t.Errorf("Small with eta %d has the size %d", eta, n)
				}
			}
		}
	}
	for _, p := range sets() {
		first, second := Secrets(tables.Make(), p, "seed")
		// Among so many coefficients there are greatest ones.
		if n, m := field.Size(first), field.Size(second); n != p.Eta || m != p.Eta {
			t.Errorf("Secrets with eta %d have the sizes %d and %d", p.Eta, n, m)
		}
	}
}

func TestBallHasTauCoefficients(t *testing.T) {
	x := tables.Make()
	for _, seed := range seeds() {
		for tau := range 65 {
			p := Ball(x, seed, tau)
			if n := count(p, 1) + count(p, prime-1); n != tau || count(p, 0) != 256-tau {
				t.Errorf("%d coefficients of Ball with tau %d are 1 or -1, and %d are 0", n, tau, count(p, 0))
			}
		}
	}
}

// R1, with tables that no permutation expects

func TestAnyTables(t *testing.T) {
	x := api.Tables{}
	for i := range x.Turns {
		x.Turns[i] = noise(i)
	}
	x.Turns[1], x.Turns[2], x.Rounds[0] = math.MinInt, math.MaxInt, math.MaxUint64
	p, _ := round.Set(4)
	b, _ := sponge.Shake(x, api.Shake128, "seed\x00\x00", 1008)
	same(t, "Matrix", Matrix(x, p, "seed")[0][0], uniformOf(b))
	b, _ = sponge.Shake(x, api.Shake256, "seed\x00\x00", 816)
	first, _ := Secrets(x, p, "seed")
	same(t, "Secrets", first[0], smallOfBytes(b, 2))
	same(t, "Masks", Masks(x, p, "seed", 0)[0], maskOf(b[:576], 131072))
	b, _ = sponge.Shake(x, api.Shake256, "seed", 544)
	same(t, "Ball", Ball(x, "seed", 20), ballOf(b, 20))
}

// R3

func TestResultsAreNewMemory(t *testing.T) {
	x := tables.Make()
	p, _ := round.Set(1)
	m := Matrix(x, p, "rho")
	first, second := Secrets(x, p, "seed")
	l := Masks(x, p, "seed", 0)
	for _, all := range append(slices.Clone(m), first, second, l) {
		for i := range all {
			all[i] = full(-5)
		}
		// What is appended to one list is not put into another one.
		_ = append(all, full(-7))
	}
	third, fourth := Secrets(x, p, "seed")
	for _, all := range append(Matrix(x, p, "rho"), third, fourth, Masks(x, p, "seed", 0)) {
		for i := range all {
			if !field.Right(all[i]) {
				t.Error("a result has changed with that of another call")
			}
		}
	}
	for _, all := range append(slices.Clone(m), first, second, l) {
		for i := range all {
			if all[i] != full(-5) {
				t.Error("a list of a result has changed with another one")
			}
		}
	}
	if x != tables.Make() {
		t.Error("the tables have changed")
	}
}
