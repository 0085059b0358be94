package mlkey

import (
	"crypto/mldsa"
	"crypto/sha256"
	"crypto/sha3"
	"encoding/hex"
	"fmt"
	"math"
	"math/big"
	"slices"
	"strings"
	"testing"

	"sigil/api"
	"sigil/field"
	"sigil/ntt"
	"sigil/round"
	"sigil/sample"
	"sigil/sponge"
	"sigil/tables"
)

const prime = 8380417

// noise returns the number n of a sequence without a pattern, from all ints.
func noise(n int) int {
	x := uint64(n)*0x9e3779b97f4a7c15 + 0xd1b54a32d192ed03
	x = (x ^ x>>30) * 0xbf58476d1ce4e5b9
	x = (x ^ x>>27) * 0x94d049bb133111eb
	return int(x ^ x>>31)
}

// noiseBytes returns bytes without a pattern.
func noiseBytes(n, count int) string {
	b := make([]byte, count)
	for i := range b {
		b[i] = byte(noise(n*5000 + i))
	}
	return string(b)
}

// modulo returns the number from 0 to m - 1 that is congruent to x.
func modulo(x, m int) int {
	return ((x % m) + m) % m
}

// full returns a polynomial with the same coefficient everywhere.
func full(x int) api.Poly {
	var p api.Poly
	for i := range p {
		p[i] = x
	}
	return p
}

// with returns a polynomial with one coefficient that is not 0.
func with(i, x int) api.Poly {
	var p api.Poly
	p[i] = x
	return p
}

// mixed returns so many polynomials with coefficients from low to high, the ends among them, without a pattern.
func mixed(n, many, low, high int) []api.Poly {
	l := make([]api.Poly, many)
	for k := range l {
		for i := range l[k] {
			l[k][i] = low + modulo(noise(n*7000+k*256+i), high-low+1)
		}
		l[k][0], l[k][255] = low, high
		l[k][noise(n+k)&127+1] = low
	}
	return l
}

// anyInts returns polynomials with coefficients from all ints.
func anyInts(n, many int) []api.Poly {
	l := make([]api.Poly, many)
	for k := range l {
		for i := range l[k] {
			l[k][i] = noise(n*7000 + k*256 + i)
		}
		copy(l[k][3:], []int{math.MinInt, math.MaxInt, -1, prime, -prime})
	}
	return l
}

// reduced returns l with all coefficients reduced.
func reduced(l []api.Poly) []api.Poly {
	out := slices.Clone(l)
	for k := range out {
		for i, x := range out[k] {
			out[k][i] = modulo(x, prime)
		}
	}
	return out
}

// sets returns valid lattice parameters: those of the kinds, and others with as few and as many polynomials as may be.
func sets() []api.Lattice {
	var all []api.Lattice
	for kind := 1; kind <= 4; kind++ {
		p, _ := round.Set(kind)
		all = append(all, p)
	}
	return append(all,
		api.Lattice{K: 8, L: 8, Eta: 4, Tau: 64, Gamma1: 131072, Gamma2: 261888, Omega: 100, Lambda: 192},
		api.Lattice{K: 1, L: 8, Eta: 2, Tau: 1, Gamma1: 524288, Gamma2: 95232, Omega: 1, Lambda: 256},
		api.Lattice{K: 8, L: 1, Eta: 4, Tau: 1, Gamma1: 524288, Gamma2: 95232, Omega: 1, Lambda: 128},
		api.Lattice{K: 2, L: 3, Eta: 2, Tau: 5, Gamma1: 131072, Gamma2: 95232, Omega: 7, Lambda: 128})
}

// wrongSets returns lattice parameters of which one is not valid.
func wrongSets() []api.Lattice {
	all := []api.Lattice{{}}
	change := func(f func(p *api.Lattice)) {
		p, _ := round.Set(1)
		f(&p)
		all = append(all, p)
	}
	for _, n := range []int{0, -1, 101, 1<<32 + 2, math.MaxInt, math.MinInt} {
		change(func(p *api.Lattice) { p.K = n })
		change(func(p *api.Lattice) { p.L = n })
		change(func(p *api.Lattice) { p.Eta = n })
		change(func(p *api.Lattice) { p.Tau = n })
		change(func(p *api.Lattice) { p.Gamma1 = n })
		change(func(p *api.Lattice) { p.Gamma2 = n })
		change(func(p *api.Lattice) { p.Omega = n })
		change(func(p *api.Lattice) { p.Lambda = n })
	}
	change(func(p *api.Lattice) { p.K = 9 })
	change(func(p *api.Lattice) { p.L = 9 })
	change(func(p *api.Lattice) { p.Eta = 3 })
	change(func(p *api.Lattice) { p.Tau = 65 })
	change(func(p *api.Lattice) { p.Gamma1 = 131071 })
	change(func(p *api.Lattice) { p.Gamma1 = 262144 })
	return all
}

// allTables returns the right tables, and others.
func allTables() []api.Tables {
	rounds, turns, zetas, right := tables.Make(), tables.Make(), tables.Make(), tables.Make()
	rounds.Rounds[3] ^= 1 << 40
	turns.Turns[7] += 5
	for i := range zetas.Zetas {
		zetas.Zetas[i] = noise(i)
	}
	zetas.Zetas[1], zetas.Zetas[2] = math.MinInt, math.MaxInt
	return []api.Tables{right, rounds, turns, zetas, {}}
}

// packed returns the numbers in so many bits each, computed as one long number.
func packed(l []int, wide int) string {
	sum := new(big.Int)
	for i, x := range l {
		n := big.NewInt(int64(x))
		sum.Add(sum, n.Lsh(n, uint(i*wide)))
	}
	b := sum.FillBytes(make([]byte, len(l)*wide/8))
	slices.Reverse(b)
	return string(b)
}

// below returns how far the coefficients, taken as numbers about 0, lie below high.
func below(p api.Poly, high int) []int {
	l := make([]int, len(p))
	for i, x := range p {
		x = modulo(x, prime)
		if x > prime/2 {
			x -= prime
		}
		l[i] = high - x
	}
	return l
}

// publicOf is PublicBytes of valid arguments, as the chapter tells it.
func publicOf(rho string, high []api.Poly) string {
	for _, p := range high {
		rho += packed(p[:], 10)
	}
	return rho
}

// etaBits returns the bits of a coefficient of a secret polynomial.
func etaBits(eta int) int {
	if eta == 2 {
		return 3
	}
	return 4
}

// secretOf is SecretBytes of valid arguments, as the chapter tells it.
func secretOf(eta int, head string, a, b, low []api.Poly) string {
	for _, p := range slices.Concat(a, b) {
		head += packed(below(p, eta), etaBits(eta))
	}
	for _, p := range low {
		head += packed(below(p, 4096), 13)
	}
	return head
}

// samePolys reports a difference between lists of polynomials.
func samePolys(t *testing.T, what string, got, want []api.Poly) {
	t.Helper()
	if len(got) != len(want) {
		t.Fatalf("%s: %d polynomials, want %d", what, len(got), len(want))
	}
	for i := range got {
		if got[i] != want[i] {
			t.Errorf("%s: polynomial %d begins with %v, want %v", what, i, got[i][:8], want[i][:8])
		}
	}
}

// sameBytes reports a difference between strings, the second of which comes without an error.
func sameBytes(t *testing.T, what, got string, e api.Errno, want string) {
	t.Helper()
	if e != api.OK || got != want {
		t.Errorf("%s: %d bytes from %x on and error %d, want %d bytes from %x on", what, len(got), got[:min(40, len(got))], e, len(want), want[:40])
	}
}

// P12.1

func TestSizesOfTheKinds(t *testing.T) {
	for kind, want := range [][3]int{1: {1312, 2560, 2420}, 2: {1952, 4032, 3309}, 3: {2592, 4896, 4627}, 4: {352, 736, 669}} {
		p, _ := round.Set(kind)
		if a, b, c := Sizes(p); [3]int{a, b, c} != want {
			t.Errorf("Sizes of kind %d is %d, %d, %d; want %v", kind, a, b, c, want)
		}
	}
}

func TestSizesOfAllValidSets(t *testing.T) {
	for k := 1; k <= 8; k++ {
		for l := 1; l <= 8; l++ {
			for _, eta := range []int{2, 4} {
				for gamma1, mask := range map[int]int{131072: 576, 524288: 640} {
					for lambda, hash := range map[int]int{128: 32, 192: 48, 256: 64} {
						for _, omega := range []int{1, 55, 80, 100} {
							p := api.Lattice{K: k, L: l, Eta: eta, Tau: 1 + omega/2, Gamma1: gamma1, Gamma2: 95232, Omega: omega, Lambda: lambda}
							want := [3]int{32 + 320*k, 128 + 32*etaBits(eta)*(k+l) + 416*k, hash + mask*l + omega + k}
							if a, b, c := Sizes(p); [3]int{a, b, c} != want {
								t.Errorf("Sizes of %v is %d, %d, %d; want %v", p, a, b, c, want)
							}
						}
					}
				}
			}
		}
	}
}

func TestSizesWithoutAValidSet(t *testing.T) {
	for _, p := range wrongSets() {
		if a, b, c := Sizes(p); a != 0 || b != 0 || c != 0 {
			t.Errorf("Sizes of %v is %d, %d, %d", p, a, b, c)
		}
	}
}

// P12.2

// rowsOf is Rows, as the chapter tells it.
func rowsOf(x api.Tables, m [][]api.Poly, v []api.Poly) []api.Poly {
	var out []api.Poly
	for _, row := range m {
		var sum api.Poly
		for s := range row {
			if s >= len(v) {
				continue
			}
			product := ntt.Times(row[s], ntt.There(x, v[s]))
			for i := range sum {
				sum[i] = (sum[i] + product[i]) % prime
			}
		}
		out = append(out, ntt.Back(x, sum))
	}
	return out
}

func TestRowsMultiplyAMatrix(t *testing.T) {
	x := tables.Make()
	m := [][]api.Poly{mixed(1, 3, 0, prime-1), mixed(2, 3, 0, prime-1)}
	v := mixed(3, 3, -prime, prime)
	turned := make([][]api.Poly, len(m))
	want := make([]api.Poly, len(m))
	for r := range m {
		for s := range m[r] {
			turned[r] = append(turned[r], ntt.There(x, m[r][s]))
			want[r] = field.Add(want[r], ntt.Slow(m[r][s], v[s]))
		}
	}
	samePolys(t, "Rows", Rows(x, turned, v), want)
}

func TestRowsOfOnePolynomial(t *testing.T) {
	x := tables.Make()
	// The transform of 1 is 1 everywhere.
	samePolys(t, "Rows of 1 and X", Rows(x, [][]api.Poly{{full(1)}}, []api.Poly{with(1, 1)}), []api.Poly{with(1, 1)})
	samePolys(t, "Rows of -2 and X", Rows(x, [][]api.Poly{{full(-2)}}, []api.Poly{with(1, 1)}), []api.Poly{with(1, prime-2)})
	samePolys(t, "Rows of 1 + 1 and X, X^2", Rows(x, [][]api.Poly{{full(1), full(1)}}, []api.Poly{with(1, 1), with(1, prime+5)}), []api.Poly{with(1, 6)})
}

func TestRowsOfOtherLengths(t *testing.T) {
	x := tables.Make()
	rows := [][]api.Poly{nil, anyInts(1, 1), anyInts(2, 2), anyInts(3, 3), {}, anyInts(4, 9), anyInts(5, 2)}
	for many := range 11 {
		v := anyInts(6, many)
		for count := range len(rows) + 1 {
			samePolys(t, fmt.Sprintf("Rows of %d rows and %d polynomials", count, many), Rows(x, rows[:count], v), rowsOf(x, rows[:count], v))
		}
	}
	samePolys(t, "Rows of rows without a polynomial", Rows(x, make([][]api.Poly, 3), anyInts(7, 2)), make([]api.Poly, 3))
	samePolys(t, "Rows of nothing with nothing", Rows(x, nil, nil), nil)
	samePolys(t, "Rows of 20 rows", Rows(x, slices.Repeat(rows[3:4], 20), anyInts(8, 3)), slices.Repeat(rowsOf(x, rows[3:4], anyInts(8, 3)), 20))
}

func TestRowsWithOtherTables(t *testing.T) {
	for _, x := range allTables() {
		m := [][]api.Poly{anyInts(1, 2), anyInts(2, 2)}
		v := anyInts(3, 2)
		samePolys(t, "Rows", Rows(x, m, v), rowsOf(x, m, v))
	}
}

// P12.3

func TestPublicBytes(t *testing.T) {
	for n, p := range sets() {
		for _, rho := range []string{noiseBytes(n, 32), strings.Repeat("\x00", 32)} {
			for _, high := range [][]api.Poly{mixed(n, p.K, 0, 1023), make([]api.Poly, p.K), slices.Repeat([]api.Poly{full(1023)}, p.K)} {
				s, e := PublicBytes(p, rho, high)
				sameBytes(t, "PublicBytes", s, e, publicOf(rho, high))
			}
		}
	}
}

func TestPublicBytesOfKnownCoefficients(t *testing.T) {
	p, _ := round.Set(4)
	s, e := PublicBytes(p, noiseBytes(1, 32), []api.Poly{{1, 2, 3, 1023, 512}})
	sameBytes(t, "PublicBytes", s, e, noiseBytes(1, 32)+"\x01\x08\x30\xc0\xff\x00\x02"+strings.Repeat("\x00", 313))
}

func TestPublicBytesOfWrongArguments(t *testing.T) {
	wrong := func(what string, p api.Lattice, rho string, high []api.Poly, want api.Errno) {
		t.Helper()
		if s, e := PublicBytes(p, rho, high); s != "" || e != want {
			t.Errorf("PublicBytes of %s is %d bytes and error %d, want error %d", what, len(s), e, want)
		}
	}
	rho := noiseBytes(1, 32)
	for _, p := range wrongSets() {
		wrong("a wrong set", p, rho, mixed(1, 4, 0, 1023), api.ErrArg)
		wrong("a wrong set, and too great a coefficient", p, rho, mixed(1, 4, 0, 1024), api.ErrArg)
		wrong("a wrong set without polynomials", p, rho, nil, api.ErrArg)
	}
	for _, p := range sets() {
		for _, n := range []int{0, 1, 31, 33, 64, 128, 300} {
			wrong("another rho", p, noiseBytes(1, n), mixed(1, p.K, 0, 1023), api.ErrArg)
			wrong("another rho, and too great a coefficient", p, noiseBytes(1, n), mixed(1, p.K, 0, 1024), api.ErrArg)
		}
		for n := range 12 {
			if n != p.K {
				wrong("another number of polynomials", p, rho, mixed(1, n, 0, 1023), api.ErrArg)
				wrong("another number, and too great a coefficient", p, rho, mixed(1, n, 0, 1024), api.ErrArg)
			}
		}
		for k := range p.K {
			for _, x := range []int{-1, 1024, 2047, prime - 1, prime, -prime, 1 << 32, math.MaxInt, math.MinInt} {
				high := mixed(1, p.K, 0, 1023)
				high[k][noise(k)&255] = x
				wrong("a coefficient beyond the range", p, rho, high, api.ErrOver)
			}
		}
	}
}

// P12.4

func TestPublic(t *testing.T) {
	for n, p := range sets() {
		for k, high := range [][]api.Poly{mixed(n, p.K, 0, 1023), make([]api.Poly, p.K), slices.Repeat([]api.Poly{full(1023)}, p.K)} {
			want := noiseBytes(k, 32)
			rho, l, e := Public(p, publicOf(want, high))
			sameBytes(t, "rho", rho, e, want)
			samePolys(t, "Public", l, high)
		}
	}
}

func TestPublicOfAnotherLength(t *testing.T) {
	for _, p := range sets() {
		size := 32 + 320*p.K
		for _, n := range []int{0, 1, 31, 32, 33, 319, size - 320, size - 33, size - 32, size - 1, size + 1, size + 32, size + 320, 2 * size, 50000} {
			if n == size {
				continue
			}
			if rho, l, e := Public(p, strings.Repeat("\x00", n)); rho != "" || len(l) != 0 || e != api.ErrForm {
				t.Errorf("Public of %d bytes is %x, %d polynomials and error %d", n, rho, len(l), e)
			}
		}
	}
}

func TestPublicWithoutAValidSet(t *testing.T) {
	for _, p := range wrongSets() {
		for _, n := range []int{0, 32, 1312, 5} {
			if rho, l, e := Public(p, noiseBytes(1, n)); rho != "" || len(l) != 0 || e != api.ErrArg {
				t.Errorf("Public of %v is %x, %d polynomials and error %d", p, rho, len(l), e)
			}
		}
	}
}

// P12.5

func TestSecretBytes(t *testing.T) {
	for n, p := range sets() {
		head := noiseBytes(n, 128)
		a, b, low := mixed(n, p.L, -p.Eta, p.Eta), mixed(n+50, p.K, -p.Eta, p.Eta), mixed(n+100, p.K, -4095, 4096)
		s, e := SecretBytes(p, head, a, b, low)
		sameBytes(t, "SecretBytes", s, e, secretOf(p.Eta, head, a, b, low))
		s, e = SecretBytes(p, head, reduced(a), reduced(b), reduced(low))
		sameBytes(t, "SecretBytes of reduced polynomials", s, e, secretOf(p.Eta, head, a, b, low))
	}
}

func TestSecretBytesOfKnownCoefficients(t *testing.T) {
	p, _ := round.Set(4)
	head := noiseBytes(1, 128)
	s, e := SecretBytes(p, head, []api.Poly{full(2)}, []api.Poly{full(-2)}, []api.Poly{full(4096)})
	sameBytes(t, "SecretBytes", s, e, head+strings.Repeat("\x00", 96)+strings.Repeat("\x24\x49\x92", 32)+strings.Repeat("\x00", 416))
	p.Eta = 4
	s, e = SecretBytes(p, head, []api.Poly{{4, 3, 2, 1}}, []api.Poly{full(-4)}, []api.Poly{full(-4095)})
	sameBytes(t, "SecretBytes", s, e, head+"\x10\x32"+strings.Repeat("\x44", 126)+strings.Repeat("\x88", 128)+strings.Repeat("\xff", 416))
}

func TestSecretBytesOfWrongArguments(t *testing.T) {
	wrong := func(what string, p api.Lattice, head string, a, b, low []api.Poly, want api.Errno) {
		t.Helper()
		if s, e := SecretBytes(p, head, a, b, low); s != "" || e != want {
			t.Errorf("SecretBytes of %s is %d bytes and error %d, want error %d", what, len(s), e, want)
		}
	}
	head := noiseBytes(1, 128)
	zero := make([]api.Poly, 12)
	over := slices.Repeat([]api.Poly{full(5000)}, 12)
	for _, p := range wrongSets() {
		wrong("a wrong set", p, head, zero[:4], zero[:4], zero[:4], api.ErrArg)
		wrong("a wrong set, and too great coefficients", p, head, over[:4], over[:4], over[:4], api.ErrArg)
		wrong("a wrong set without polynomials", p, head, nil, nil, nil, api.ErrArg)
	}
	for _, p := range sets() {
		for _, n := range []int{0, 1, 32, 64, 127, 129, 256} {
			wrong("another head", p, noiseBytes(1, n), zero[:p.L], zero[:p.K], zero[:p.K], api.ErrArg)
			wrong("another head, and too great coefficients", p, noiseBytes(1, n), over[:p.L], over[:p.K], over[:p.K], api.ErrArg)
		}
		for n := range 12 {
			if n != p.L {
				wrong("another number of a", p, head, zero[:n], zero[:p.K], zero[:p.K], api.ErrArg)
				wrong("another number of a, and too great coefficients", p, head, over[:n], over[:p.K], over[:p.K], api.ErrArg)
			}
			if n != p.K {
				wrong("another number of b", p, head, zero[:p.L], zero[:n], zero[:p.K], api.ErrArg)
				wrong("another number of low", p, head, zero[:p.L], zero[:p.K], zero[:n], api.ErrArg)
				wrong("another number of low, and too great coefficients", p, head, over[:p.L], over[:p.K], over[:n], api.ErrArg)
			}
		}
	}
}

func TestSecretBytesOfCoefficientsBeyondTheRange(t *testing.T) {
	for _, p := range sets() {
		for list, ends := range [][2]int{{-p.Eta, p.Eta}, {-p.Eta, p.Eta}, {-4095, 4096}} {
			for _, x := range []int{ends[0] - 1, ends[1] + 1, 5000, prime / 2, prime - 4096, prime + ends[1] + 1, 1<<32 + ends[1]} {
				all := [][]api.Poly{make([]api.Poly, p.L), make([]api.Poly, p.K), make([]api.Poly, p.K)}
				for k := range all[list] {
					all[list][k][noise(x+k)&255] = x
					if s, e := SecretBytes(p, noiseBytes(1, 128), all[0], all[1], all[2]); s != "" || e != api.ErrOver {
						t.Errorf("SecretBytes with %d in list %d is %d bytes and error %d", x, list, len(s), e)
					}
					all[list][k] = api.Poly{}
				}
			}
		}
	}
}

// P12.6

func TestSecret(t *testing.T) {
	for n, p := range sets() {
		want := noiseBytes(n, 128)
		a, b, low := mixed(n, p.L, -p.Eta, p.Eta), mixed(n+50, p.K, -p.Eta, p.Eta), mixed(n+100, p.K, -4095, 4096)
		head, all, e := Secret(p, secretOf(p.Eta, want, a, b, low))
		sameBytes(t, "the head", head, e, want)
		if len(all) != 3 {
			t.Fatalf("Secret returns %d lists", len(all))
		}
		samePolys(t, "a", all[0], reduced(a))
		samePolys(t, "b", all[1], reduced(b))
		samePolys(t, "low", all[2], reduced(low))
	}
}

// wrongSecret reports what Secret should not have decoded.
func wrongSecret(t *testing.T, what string, p api.Lattice, s string, want api.Errno) {
	t.Helper()
	if head, all, e := Secret(p, s); head != "" || len(all) != 0 || e != want {
		t.Errorf("Secret of %s is %d bytes, %d lists and error %d, want error %d", what, len(head), len(all), e, want)
	}
}

func TestSecretOfAnotherLength(t *testing.T) {
	for _, p := range sets() {
		size := 128 + 32*etaBits(p.Eta)*(p.K+p.L) + 416*p.K
		for _, n := range []int{0, 1, 127, 128, 129, 416, size - 416, size - 128, size - 96, size - 1, size + 1, size + 96, size + 416, 2 * size, 50000} {
			wrongSecret(t, fmt.Sprint(n, " bytes"), p, strings.Repeat("\x00", n), api.ErrForm)
		}
	}
}

func TestSecretOfNumbersBeyondTheRange(t *testing.T) {
	for _, p := range sets() {
		wide := etaBits(p.Eta)
		right := secretOf(p.Eta, noiseBytes(1, 128), mixed(1, p.L, -p.Eta, p.Eta), mixed(2, p.K, -p.Eta, p.Eta), mixed(3, p.K, -4095, 4096))
		for k := range p.L + p.K {
			for x := 2*p.Eta + 1; x < 1<<wide; x++ {
				for _, i := range []int{0, 255, 2 * (noise(k+x) & 127)} {
					// The number i of polynomial k becomes x.
					b := []byte(right)
					at := 128*8 + k*256*wide + i*wide
					for bit := range wide {
						n := at + bit
						b[n/8] = b[n/8]&^(1<<(n%8)) | byte(x>>bit&1<<(n%8))
					}
					wrongSecret(t, fmt.Sprintf("the number %d of polynomial %d", x, k), p, string(b), api.ErrForm)
				}
			}
		}
	}
}

func TestSecretWithoutAValidSet(t *testing.T) {
	for _, p := range wrongSets() {
		for _, n := range []int{0, 128, 2560, 5} {
			wrongSecret(t, fmt.Sprint(n, " bytes with ", p), p, strings.Repeat("\x00", n), api.ErrArg)
		}
	}
}

// P12.7

// pairOf is Pair of valid arguments, as the chapter tells it.
func pairOf(x api.Tables, p api.Lattice, seed string) (string, string) {
	shake := func(s string, n int) string {
		b, _ := sponge.Shake(x, api.Shake256, s, n)
		return b
	}
	drawn := shake(seed+string([]byte{byte(p.K), byte(p.L)}), 128)
	a, b := sample.Secrets(x, p, drawn[32:96])
	var high, low []api.Poly
	for r, q := range rowsOf(x, sample.Matrix(x, p, drawn[:32]), a) {
		q, rest := round.Split(field.Add(q, b[r]))
		high, low = append(high, q), append(low, rest)
	}
	public := publicOf(drawn[:32], high)
	return public, secretOf(p.Eta, drawn[:32]+drawn[96:]+shake(public, 64), a, b, low)
}

func TestPair(t *testing.T) {
	for _, x := range allTables() {
		for n, p := range sets() {
			for _, seed := range []string{noiseBytes(n, 32), strings.Repeat("\x00", 32), strings.Repeat("\xff", 32)} {
				public, secret := pairOf(x, p, seed)
				gotPublic, gotSecret, e := Pair(x, p, seed)
				sameBytes(t, "the public key", gotPublic, e, public)
				sameBytes(t, "the secret key", gotSecret, e, secret)
			}
		}
	}
}

func TestPairIsThatOfGosKeys(t *testing.T) {
	x := tables.Make()
	for kind, params := range []mldsa.Parameters{mldsa.MLDSA44(), mldsa.MLDSA65(), mldsa.MLDSA87()} {
		p, _ := round.Set(kind + 1)
		for n := range 20 {
			seed := noiseBytes(n, 32)
			key, err := mldsa.NewPrivateKey(params, []byte(seed))
			if err != nil {
				t.Fatal(err)
			}
			public, secret, e := Pair(x, p, seed)
			sameBytes(t, "the public key", public, e, string(key.PublicKey().Bytes()))
			sameBytes(t, "the hash of the public key", secret[64:128], e, string(sha3.SumSHAKE256(key.PublicKey().Bytes(), 64)))
		}
	}
}

// TestPairOfPublishedKeys: seeds, and SHA-256 of both keys, from the tests of ML-DSA that NIST publishes (draft-celi-acvp-ml-dsa), as the tests of Go's own ML-DSA quote them.
func TestPairOfPublishedKeys(t *testing.T) {
	x := tables.Make()
	for kind, all := range [][][2]string{
		1: {
			{"5c624fcc1862452452d0c665840d8237f43108e5499edcdc108fbc49d596e4b7", "ac825c59d8a4c453a2c4efea8395741ca404f3000e28d56b25d03bb402e5cb2f"},
			{"836eabedb4d2cd9be6a4d957cf5ee6bf489304136864c55c2c5f01da5047d18b", "e1ff40d96e3552fab531d1715084b7e38ccdbacc0a8af94c30959fb4c7f5a445"},
			{"ca5a01e1ea6552cb5c9803462b94c2f1dc9d13bb17a6ace510d157056a2c6114", "a4652dc4a271095268dd84a5b0744dfdbe2e642e4d41fbc4329c2fba534c0e13"},
			{"9c005f1550b4f31855c6b92f978736733f37791cb39dd182d7ba5732bdc2483e", "2485aa99345f1b334d4d94b610fbffccb626cbfd4e9ff0e1f6fc35093c423544"},
			{"4fab5485b009399e8ae6fc3d3eefbfe8e09796e4477aabd5eb1cc908fa734de3", "cb56909a7cf3008a662dc635edcb79dc151ca7acbae17b544384abd91bbbc1e9"},
		},
		2: {
			{"464756a985e5df03739d95dd309c1ed9c5b04254cc294e7e7eb9b9365ee15117", "ae95ea0daa80199e7b4a74eb5a1b1dc6c3805bd01d2fa78d7c4fba8c255aa13d"},
			{"235a48db4ca7916b884f424a8586efd517e87c64aecec0fce9a3cc212ba1522e", "1ac58a909db4d7bc2473ab5e24af768279c76f86a82d448258e24eea4ea6b713"},
			{"e13131b705a760305feffebfe99082e2691a444bbefcc3edf67d909886200207", "b422093f95cc489c52f4fa2b8973a2fddd44426d1d04d1aaeefc8715d417181f"},
			{"0a4793e040a4bc0d0f37643d12c1ea1f10648724609936c76e0ec83e37209e92", "622d26d536d4d66cd94956b33a74e2e830ed265d25c34ff7c3e5243403146adf"},
			{"f865b889e5022d54babc81ca67e7eb39f1ac42f92cf5295c3da5c9667db1b924", "45bc8edd1a620c46e973e346844270721824d97888bc174281852d98b7e8f4a3"},
		},
		3: {
			{"0d58219132746be077dfe821e9f8fd87857b28ab91d6a567e312a73e2636032c", "4d261270341a7ac6b66900ddc2b8ab34ab483c897410ddf3b2c072bdda416434"},
			{"146c47ab9f88408eb76a813294d533b29d7e0fda75da5a4e7c69eb61efeebb78", "05194438af855b79db8ccccb647d6ba5c7aaf901bbd09d3b29395f0ea431d164"},
			{"049d9b0b646a2ac7f50b63ce5e4bfe44c9b87634f4ff6c14c513e388b8a1f808", "ac8fe6b2fe26591b129ea536a9a001c785d8acbdd9489f6e51469a156e9e635d"},
			{"9823ddde446a8ea883dad3ac6477f79839fdc2d2def2416be0a8b71cfbc3f5c6", "525010e307c4ea7667d54ee27007c219b01f4cf88dc3ab2de8e9aaa59440a884"},
			{"ae213fe8589b414f53780d8b9b6837179967e13cb474c5ad365c043778d2bc90", "d4988e91064e5df6d867434d1ded16dcd8533e39e420dc2b4eb9e40a84146f7d"},
		},
	} {
		p, _ := round.Set(kind)
		for _, one := range all {
			seed, _ := hex.DecodeString(one[0])
			public, secret, e := Pair(x, p, string(seed))
			if sum := sha256.Sum256([]byte(public + secret)); e != api.OK || hex.EncodeToString(sum[:]) != one[1] {
				t.Errorf("Pair of %s has the hash %x and error %d, want %s", one[0], sum, e, one[1])
			}
		}
	}
}

func TestPairOfWrongArguments(t *testing.T) {
	x := tables.Make()
	wrong := func(p api.Lattice, seed string) {
		t.Helper()
		if public, secret, e := Pair(x, p, seed); public != "" || secret != "" || e != api.ErrArg {
			t.Errorf("Pair of %v and %d bytes is %d and %d bytes and error %d", p, len(seed), len(public), len(secret), e)
		}
	}
	for _, p := range wrongSets() {
		wrong(p, noiseBytes(1, 32))
		wrong(p, "")
	}
	for _, p := range sets() {
		for _, n := range []int{0, 1, 31, 33, 64, 128, 4000} {
			wrong(p, noiseBytes(1, n))
		}
	}
}

// P12.8

func TestKeysHaveTheirSizes(t *testing.T) {
	for _, x := range allTables() {
		for n, p := range sets() {
			a, b, _ := Sizes(p)
			public, secret, e := Pair(x, p, noiseBytes(n, 32))
			if len(public) != a || len(secret) != b || e != api.OK {
				t.Errorf("the keys of %v have %d and %d bytes and error %d, want %d and %d bytes", p, len(public), len(secret), e, a, b)
			}
		}
	}
}

func TestDecodingInvertsEncoding(t *testing.T) {
	for n, p := range sets() {
		want, high := noiseBytes(n, 32), mixed(n, p.K, 0, 1023)
		s, _ := PublicBytes(p, want, high)
		rho, l, e := Public(p, s)
		sameBytes(t, "rho", rho, e, want)
		samePolys(t, "high", l, high)

		want = noiseBytes(n, 128)
		a, b, low := mixed(n, p.L, -p.Eta, p.Eta), mixed(n+50, p.K, -p.Eta, p.Eta), mixed(n+100, p.K, -4095, 4096)
		s, _ = SecretBytes(p, want, a, b, low)
		head, all, e := Secret(p, s)
		sameBytes(t, "the head", head, e, want)
		samePolys(t, "a, b and low", slices.Concat(all...), reduced(slices.Concat(a, b, low)))
	}
}

func TestWhatIsDecodedIsEncodedToTheSameBytes(t *testing.T) {
	for n, p := range sets() {
		size, secretSize, _ := Sizes(p)
		for _, s := range []string{noiseBytes(n, size), strings.Repeat("\x00", size), strings.Repeat("\xff", size)} {
			rho, l, e := Public(p, s)
			if e != api.OK {
				t.Fatalf("Public of %d bytes: error %d", len(s), e)
			}
			again, e := PublicBytes(p, rho, l)
			sameBytes(t, "PublicBytes of Public", again, e, s)
		}
		// Zeros but for the head and the low parts: those encode polynomials whatever they are.
		free := 128 + 32*etaBits(p.Eta)*(p.K+p.L)
		for _, s := range []string{strings.Repeat("\x00", secretSize), noiseBytes(n, 128) + strings.Repeat("\x00", free-128) + noiseBytes(n, secretSize-free)} {
			head, all, e := Secret(p, s)
			if e != api.OK {
				t.Fatalf("Secret of %d bytes: error %d", len(s), e)
			}
			again, e := SecretBytes(p, head, all[0], all[1], all[2])
			sameBytes(t, "SecretBytes of Secret", again, e, s)
		}
		public, secret, _ := Pair(tables.Make(), p, noiseBytes(n, 32))
		rho, l, _ := Public(p, public)
		again, e := PublicBytes(p, rho, l)
		sameBytes(t, "a public key that was decoded", again, e, public)
		head, all, _ := Secret(p, secret)
		again, e = SecretBytes(p, head, all[0], all[1], all[2])
		sameBytes(t, "a secret key that was decoded", again, e, secret)
	}
}

// P12.9

func TestPartsAddUpToTheProduct(t *testing.T) {
	x := tables.Make()
	for n, p := range sets() {
		public, secret, _ := Pair(x, p, noiseBytes(n, 32))
		rho, high, _ := Public(p, public)
		_, all, e := Secret(p, secret)
		if e != api.OK {
			t.Fatalf("Secret of a secret key: error %d", e)
		}
		a, b, low := all[0], all[1], all[2]
		if field.Size(a) > p.Eta || field.Size(b) > p.Eta || field.Size(low) > 4096 {
			t.Errorf("the polynomials of a secret key are greater than may be")
		}
		for r, row := range sample.Matrix(x, p, rho) {
			want := b[r]
			for s := range row {
				want = field.Add(want, ntt.Slow(ntt.Back(x, row[s]), a[s]))
			}
			if got := field.Add(field.Scale(high[r], 8192), low[r]); got != want {
				t.Errorf("row %d of %v: the parts add up to %v.., want %v..", r, p, got[:8], want[:8])
			}
		}
	}
}

// R1, with tables that no permutation expects

func TestAnyTables(t *testing.T) {
	x := api.Tables{}
	for i := range x.Turns {
		x.Turns[i] = noise(i)
	}
	for i := range x.Zetas {
		x.Zetas[i] = noise(i)
	}
	x.Turns[1], x.Turns[2], x.Rounds[0] = math.MinInt, math.MaxInt, math.MaxUint64
	p, _ := round.Set(2)
	public, secret := pairOf(x, p, noiseBytes(1, 32))
	gotPublic, gotSecret, e := Pair(x, p, noiseBytes(1, 32))
	sameBytes(t, "the public key", gotPublic, e, public)
	sameBytes(t, "the secret key", gotSecret, e, secret)
}

// R3

func TestResultsAreNewMemory(t *testing.T) {
	p, _ := round.Set(1)
	_, secret, _ := Pair(tables.Make(), p, noiseBytes(1, 32))
	_, all, _ := Secret(p, secret)
	_, again, _ := Secret(p, secret)
	for k, l := range all {
		for i := range l {
			l[i] = full(-5 - k)
		}
		// What is appended to one list is not put into another one.
		_ = append(l, full(-17))
	}
	for k, l := range all {
		samePolys(t, "a list of Secret", l, slices.Repeat([]api.Poly{full(-5 - k)}, 4))
	}
	for _, l := range again {
		samePolys(t, "another result", l, reduced(l))
	}
}

func TestArgumentsRemain(t *testing.T) {
	x := tables.Make()
	p, _ := round.Set(1)
	// The memory after the end of a slice remains, too.
	m, v := [][]api.Poly{anyInts(1, 6)[:4], anyInts(2, 6)[:4], anyInts(3, 6)}, anyInts(4, 6)
	l := Rows(x, m[:2], v[:4])
	for i := range l {
		l[i] = full(-5)
	}
	samePolys(t, "the first row", m[0][:6], anyInts(1, 6))
	samePolys(t, "the second row", m[1][:6], anyInts(2, 6))
	samePolys(t, "the third row", m[2], anyInts(3, 6))
	samePolys(t, "what is multiplied", v, anyInts(4, 6))
	a, b, low := mixed(1, 6, -2, 2), mixed(2, 6, -2, 2), mixed(3, 6, -4095, 4096)
	if _, e := SecretBytes(p, noiseBytes(1, 128), a[:4], b[:4], low[:4]); e != api.OK {
		t.Errorf("SecretBytes: error %d", e)
	}
	samePolys(t, "a", a, mixed(1, 6, -2, 2))
	samePolys(t, "b", b, mixed(2, 6, -2, 2))
	samePolys(t, "low", low, mixed(3, 6, -4095, 4096))
	high := mixed(4, 6, 0, 1023)
	if _, e := PublicBytes(p, noiseBytes(1, 32), high[:4]); e != api.OK {
		t.Errorf("PublicBytes: error %d", e)
	}
	samePolys(t, "high", high, mixed(4, 6, 0, 1023))
	Pair(x, p, noiseBytes(1, 32))
	if x != tables.Make() {
		t.Error("the tables have changed")
	}
}
