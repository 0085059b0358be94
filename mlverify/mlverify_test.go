package mlverify

import (
	"crypto/mldsa"
	"crypto/sha256"
	"encoding/hex"
	"fmt"
	"math"
	"slices"
	"strings"
	"testing"
	"unsafe"

	"sigil/api"
	"sigil/mlkey"
	"sigil/mlsign"
	"sigil/ntt"
	"sigil/round"
	"sigil/sample"
	"sigil/sponge"
	"sigil/tables"
)

const prime = 8380417

// noise returns the number n of a sequence without a pattern, from all ints.
func noise(n int) int {
	x := uint64(n)*0x9e3779b97f4a7c15 + 0xd1b54a32d192ed03
	x = (x ^ x>>30) * 0xbf58476d1ce4e5b9
	x = (x ^ x>>27) * 0x94d049bb133111eb
	return int(x ^ x>>31)
}

// noiseBytes returns bytes without a pattern.
func noiseBytes(n, count int) string {
	b := make([]byte, count)
	for i := range b {
		b[i] = byte(noise(n*70000 + i))
	}
	return string(b)
}

// modulo returns the number from 0 to m - 1 that is congruent to x.
func modulo(x, m int) int {
	return ((x % m) + m) % m
}

// centred returns the number about 0 that is congruent to x modulo m.
func centred(x, m int) int {
	x = modulo(x, m)
	if x > m/2 {
		x -= m
	}
	return x
}

// flipped returns s with some bits of a byte changed.
func flipped(s string, at int, bits byte) string {
	b := []byte(s)
	b[at] ^= bits
	return string(b)
}

// mixed returns so many polynomials with coefficients from low to high, without a pattern, reduced.
func mixed(n, many, low, high int) []api.Poly {
	l := make([]api.Poly, many)
	for k := range l {
		for i := range l[k] {
			l[k][i] = modulo(low+modulo(noise(n*7000+k*256+i), high-low+1), prime)
		}
	}
	return l
}

// full returns so many polynomials with the same coefficient everywhere, reduced.
func full(many, x int) []api.Poly {
	return mixed(0, many, x, x)
}

// ones returns so many polynomials of which so many coefficients are 1: without a pattern, or the first or the last ones of all.
func ones(n, many, count int) []api.Poly {
	l := make([]api.Poly, many)
	for left, k := count, 0; left > 0; k++ {
		at := modulo(noise(n*900+k), many*256)
		switch n {
		case 0:
			at = k
		case 1:
			at = many*256 - 1 - k
		}
		if l[at/256][at%256] == 0 {
			l[at/256][at%256] = 1
			left--
		}
	}
	return l
}

// set returns the parameters of a kind, changed.
func set(kind int, change func(p *api.Lattice)) api.Lattice {
	p, _ := round.Set(kind)
	change(&p)
	return p
}

// kind returns the parameters of a kind.
func kind(n int) api.Lattice {
	return set(n, func(*api.Lattice) {})
}

// sets returns valid lattice parameters with which there are signatures: those of the kinds, and others with as few and as many polynomials as may be.
func sets() []api.Lattice {
	return []api.Lattice{kind(1), kind(2), kind(3), kind(4),
		{K: 8, L: 8, Eta: 4, Tau: 64, Gamma1: 524288, Gamma2: 261888, Omega: 100, Lambda: 192},
		{K: 1, L: 8, Eta: 2, Tau: 1, Gamma1: 524288, Gamma2: 95232, Omega: 1, Lambda: 256},
		{K: 2, L: 3, Eta: 4, Tau: 5, Gamma1: 131072, Gamma2: 95232, Omega: 7, Lambda: 128},
		{K: 3, L: 1, Eta: 2, Tau: 33, Gamma1: 131072, Gamma2: 261888, Omega: 50, Lambda: 256}}
}

// allSets returns valid lattice parameters with each value of Eta, Gamma1, Gamma2 and Lambda together, some of them without signatures that the signer would find.
func allSets() []api.Lattice {
	all := sets()
	for _, lambda := range []int{128, 192, 256} {
		for n := range 8 {
			p := api.Lattice{K: 1 + len(all)%8, L: 1 + len(all)*3%8, Eta: 2 + n%2*2, Tau: 1 + len(all)*5%64, Gamma1: 131072, Gamma2: 95232, Omega: 1 + len(all)*23%100, Lambda: lambda}
			if n&2 != 0 {
				p.Gamma1 = 524288
			}
			if n&4 != 0 {
				p.Gamma2 = 261888
			}
			all = append(all, p)
		}
	}
	return all
}

// wrongSets returns lattice parameters of which one is not valid.
func wrongSets() []api.Lattice {
	all := []api.Lattice{{}}
	change := func(f func(p *api.Lattice)) {
		all = append(all, set(1, f))
	}
	for _, n := range []int{0, -1, 101, 1<<32 + 2, math.MaxInt, math.MinInt} {
		change(func(p *api.Lattice) { p.K = n })
		change(func(p *api.Lattice) { p.L = n })
		change(func(p *api.Lattice) { p.Eta = n })
		change(func(p *api.Lattice) { p.Tau = n })
		change(func(p *api.Lattice) { p.Gamma1 = n })
		change(func(p *api.Lattice) { p.Gamma2 = n })
		change(func(p *api.Lattice) { p.Omega = n })
		change(func(p *api.Lattice) { p.Lambda = n })
	}
	change(func(p *api.Lattice) { p.K = 9 })
	change(func(p *api.Lattice) { p.L = 9 })
	change(func(p *api.Lattice) { p.Eta = 3 })
	change(func(p *api.Lattice) { p.Tau = 65 })
	change(func(p *api.Lattice) { p.Gamma1 = 262144 })
	change(func(p *api.Lattice) { p.Gamma2 = 131072 })
	return all
}

// otherTables returns tables that are not those of chapter 2; the first two have its roots of the ring, with which what is signed is accepted.
func otherTables() []api.Tables {
	rounds, turns, zetas, all := tables.Make(), tables.Make(), tables.Make(), api.Tables{}
	rounds.Rounds[3] ^= 1 << 40
	turns.Turns[7] += 5
	for i := range zetas.Zetas {
		zetas.Zetas[i] = noise(i)
		all.Zetas[i] = noise(-i)
	}
	zetas.Zetas[1], zetas.Zetas[2] = math.MinInt, math.MaxInt
	for i := range all.Turns {
		all.Turns[i] = noise(i)
	}
	all.Turns[1], all.Turns[2], all.Rounds[0] = math.MinInt, math.MaxInt, math.MaxUint64
	return []api.Tables{rounds, turns, zetas, all, {}}
}

// shakeOf returns n bytes of SHAKE256 of s.
func shakeOf(x *api.Tables, s string, n int) string {
	b, _ := sponge.Shake(*x, api.Shake256, s, n)
	return b
}

// packed returns the numbers in so many bits each, bit by bit.
func packed(l []int, wide int) string {
	b := make([]byte, len(l)*wide/8)
	for i, x := range l {
		for k := range wide {
			b[(i*wide+k)/8] |= byte(x>>k&1) << ((i*wide + k) % 8)
		}
	}
	return string(b)
}

// unpacked returns the numbers that have so many bits each in s, bit by bit.
func unpacked(s string, wide int) []int {
	l := make([]int, len(s)*8/wide)
	for i := range l {
		for k := range wide {
			l[i] |= int(s[(i*wide+k)/8]>>((i*wide+k)%8)&1) << k
		}
	}
	return l
}

// maskBits returns the bits of a coefficient of z.
func maskBits(p api.Lattice) int {
	if p.Gamma1 == 524288 {
		return 20
	}
	return 18
}

// highBits returns the bits of a high part, and how many high parts there are.
func highBits(p api.Lattice) (int, int) {
	if p.Gamma2 == 261888 {
		return 4, 16
	}
	return 6, 44
}

// places returns the indices of what is not 0, polynomial by polynomial, and how many there are up to the end of each.
func places(hints []api.Poly) ([]byte, []byte) {
	var indices, ends []byte
	for _, h := range hints {
		for i, c := range h {
			if c != 0 {
				indices = append(indices, byte(i))
			}
		}
		ends = append(ends, byte(len(indices)))
	}
	return indices, ends
}

// hintBytes returns the end of a signature with these indices and ends.
func hintBytes(p api.Lattice, indices, ends []byte) string {
	return string(indices) + strings.Repeat("\x00", p.Omega-len(indices)) + string(ends)
}

// sigOf returns the signature of a challenge hash, z and hints.
func sigOf(p api.Lattice, hash string, z, hints []api.Poly) string {
	var l []int
	for _, q := range z {
		for _, c := range q {
			l = append(l, p.Gamma1-centred(c, prime))
		}
	}
	indices, ends := places(hints)
	return hash + packed(l, maskBits(p)) + hintBytes(p, indices, ends)
}

// partsOf returns the parts of a signature, whose form is right, as the chapter tells them.
func partsOf(p api.Lattice, s string) (string, []api.Poly, []api.Poly) {
	z, hints := make([]api.Poly, p.L), make([]api.Poly, p.K)
	from := p.Lambda / 4
	size := 32 * maskBits(p)
	for i := range z {
		for k, n := range unpacked(s[from+i*size:from+(i+1)*size], maskBits(p)) {
			z[i][k] = modulo(p.Gamma1-n, prime)
		}
	}
	indices, ends := s[from+p.L*size:len(s)-p.K], s[len(s)-p.K:]
	at := 0
	for r := range hints {
		for ; at < int(ends[r]); at++ {
			hints[r][indices[at]] = 1
		}
	}
	return s[:from], z, hints
}

// highOf returns the high part of x, corrected where hint is set, as FIPS 204 tells it.
func highOf(p api.Lattice, x int, hint bool) int {
	_, count := highBits(p)
	x = modulo(x, prime)
	low := centred(x, 2*p.Gamma2)
	high := (x - low) / (2 * p.Gamma2)
	if x-low == prime-1 {
		high, low = 0, low-1
	}
	switch {
	case hint && low > 0:
		high++
	case hint:
		high--
	}
	return modulo(high, count)
}

// challengeOf returns the challenge hash that a signature of a message with these parts must have, of which c is the challenge, as the chapter tells it.
func challengeOf(x *api.Tables, p api.Lattice, public, message string, z, hints []api.Poly, c api.Poly) string {
	wide, _ := highBits(p)
	hash := shakeOf(x, shakeOf(x, public, 64)+message, 64)
	for r, w := range mlkey.Rows(*x, sample.Matrix(*x, p, public[:32]), z) {
		var high api.Poly
		copy(high[:], unpacked(public[32+320*r:32+320*(r+1)], 10))
		var l []int
		for i, lost := range ntt.Product(*x, c, high) {
			l = append(l, highOf(p, w[i]-8192*lost, hints[r][i] != 0))
		}
		hash += packed(l, wide)
	}
	return shakeOf(x, hash, p.Lambda/4)
}

// holds is Inner of arguments of the right forms, as the chapter tells it.
func holds(x *api.Tables, p api.Lattice, public, message, sig string) bool {
	hash, z, hints := partsOf(p, sig)
	for _, q := range z {
		for _, n := range q {
			if n = centred(n, prime); max(n, -n) >= p.Gamma1-p.Tau*p.Eta {
				return false
			}
		}
	}
	return hash == challengeOf(x, p, public, message, z, hints, sample.Ball(*x, hash, p.Tau))
}

// emptyKey returns a public key whose polynomials are 0.
func emptyKey(p api.Lattice, n int) string {
	return noiseBytes(n, 32) + strings.Repeat("\x00", 320*p.K)
}

// forged returns a signature by an empty public key. The challenge, by which its polynomials are multiplied, changes nothing: whatever z and the hints are, there is a challenge hash that fits them, and nobody needs a secret key.
func forged(x *api.Tables, p api.Lattice, public, message string, z, hints []api.Poly) string {
	return sigOf(p, challengeOf(x, p, public, message, z, hints, api.Poly{}), z, hints)
}

// largest returns the greatest size that z may have.
func largest(p api.Lattice) int {
	return p.Gamma1 - p.Tau*p.Eta - 1
}

// pairOf returns both keys of a seed without a pattern.
func pairOf(x api.Tables, p api.Lattice, n int) (string, string) {
	public, secret, _ := mlkey.Pair(x, p, noiseBytes(n, 32))
	return public, secret
}

// signed returns a public key, and a signature by it of a string in a context.
func signed(t *testing.T, x api.Tables, p api.Lattice, n int, s, context, random string) (string, string) {
	t.Helper()
	public, secret := pairOf(x, p, n)
	sig, e := mlsign.Sign(x, p, secret, s, context, random)
	if e != api.OK {
		t.Fatalf("Sign with %v: error %d", p, e)
	}
	return public, sig
}

// same reports another answer than the one that is wanted.
func same(t *testing.T, what string, got bool, e api.Errno, want bool, wantE api.Errno) {
	t.Helper()
	if got != want || e != wantE {
		t.Errorf("%s: %v and error %d, want %v and error %d", what, got, e, want, wantE)
	}
}

// inner compares the answer of Inner with the one that is wanted, and with the chapter's.
func inner(t *testing.T, what string, x *api.Tables, p api.Lattice, public, message, sig string, want bool) {
	t.Helper()
	if holds(x, p, public, message, sig) != want {
		t.Errorf("%s with %v: the chapter's answer is not %v", what, p, want)
	}
	got, e := Inner(*x, p, public, message, sig)
	same(t, fmt.Sprint(what, " with ", p), got, e, want, api.OK)
}

// samePolys reports a difference between lists of polynomials.
func samePolys(t *testing.T, what string, got, want []api.Poly) {
	t.Helper()
	if !slices.Equal(got, want) {
		t.Errorf("%s: %d polynomials that are not the %d ones that are wanted", what, len(got), len(want))
	}
}

// parsed compares the parts of a signature with those that are wanted.
func parsed(t *testing.T, p api.Lattice, s, hash string, z, hints []api.Poly) {
	t.Helper()
	gotHash, gotZ, gotHints, e := Parse(p, s)
	if gotHash != hash || e != api.OK {
		t.Errorf("Parse with %v: the hash %x and error %d, want %x", p, gotHash, e, hash)
	}
	samePolys(t, fmt.Sprint("z of Parse with ", p), gotZ, z)
	samePolys(t, fmt.Sprint("hints of Parse with ", p), gotHints, hints)
}

// unparsed reports a signature that Parse should have refused.
func unparsed(t *testing.T, what string, p api.Lattice, s string, want api.Errno) {
	t.Helper()
	hash, z, hints, e := Parse(p, s)
	if hash != "" || len(z) != 0 || len(hints) != 0 || e != want {
		t.Errorf("Parse of %s with %v: %d bytes, %d and %d polynomials and error %d, want error %d", what, p, len(hash), len(z), len(hints), e, want)
	}
}

// P14.1

func TestParseOfTheExample(t *testing.T) {
	p := kind(1)
	unparsed(t, "2419 bytes", p, strings.Repeat("\x00", 2419), api.ErrForm)
	_, sig := signed(t, tables.Make(), p, 1, "message", "context", "")
	unparsed(t, "2419 bytes", p, sig[:2419], api.ErrForm)
	unparsed(t, "2419 bytes", p, sig[1:], api.ErrForm)
}

func TestParse(t *testing.T) {
	for n, p := range allSets() {
		hash := noiseBytes(n, p.Lambda/4)
		for k, z := range [][]api.Poly{mixed(n, p.L, 1-p.Gamma1, p.Gamma1), mixed(n, p.L, -9, 9), full(p.L, 0), full(p.L, p.Gamma1), full(p.L, 1-p.Gamma1), full(p.L, -1)} {
			for _, count := range []int{0, 1, p.Omega / 2, p.Omega - 1, p.Omega} {
				hints := ones(k, p.K, count)
				parsed(t, p, sigOf(p, hash, z, hints), hash, z, hints)
			}
		}
	}
}

func TestParseOfWrittenOutBytes(t *testing.T) {
	p := kind(4)
	// The first coefficients of z are 131072 minus 0, 131071, 131072, 131073 and 262143: 18 bits each, in the order of the bits.
	s := strings.Repeat("\xab", 32) + "\x00\x00\xfc\xff\x07\x00\x60\x00\x80\xff\xff\x03" + strings.Repeat("\x00", 564) + "\x05\x07\xff" + strings.Repeat("\x00", 57) + "\x03"
	z, hints := full(1, 131072), full(1, 0)
	z[0][1], z[0][2], z[0][3], z[0][4] = 1, 0, prime-1, prime-131071
	hints[0][5], hints[0][7], hints[0][255] = 1, 1, 1
	parsed(t, p, s, s[:32], z, hints)
}

func TestParseOfAnyBytes(t *testing.T) {
	for n, p := range allSets() {
		_, _, size := mlkey.Sizes(p)
		indices, ends := places(ones(n, p.K, p.Omega))
		for _, s := range []string{noiseBytes(n, size), strings.Repeat("\x00", size), strings.Repeat("\xff", size), strings.Repeat("\x01\x80", size)[:size]} {
			for _, tail := range []string{hintBytes(p, indices, ends), hintBytes(p, nil, make([]byte, p.K))} {
				s = s[:size-len(tail)] + tail
				hash, z, hints := partsOf(p, s)
				parsed(t, p, s, hash, z, hints)
			}
		}
	}
}

func TestParseOfSignatures(t *testing.T) {
	x := tables.Make()
	for n, p := range sets() {
		_, sig := signed(t, x, p, n, "message", "context", noiseBytes(n, 32))
		hash, z, hints, e := Parse(p, sig)
		if len(z) != p.L || len(hints) != p.K || e != api.OK || sigOf(p, hash, z, hints) != sig {
			t.Errorf("Parse with %v: %d and %d polynomials and error %d, not the parts of the signature", p, len(z), len(hints), e)
		}
	}
}

func TestParseOfAnotherLength(t *testing.T) {
	for n, p := range allSets() {
		public, secret, size := mlkey.Sizes(p)
		for _, count := range []int{0, 1, p.Lambda / 4, p.Omega + p.K, size - p.Omega - p.K, size - p.K, size - 2, size - 1, size + 1, size + 2, 2 * size, 70000, public, secret} {
			if count != size {
				unparsed(t, fmt.Sprint(count, " bytes"), p, strings.Repeat("\x00", count), api.ErrForm)
				unparsed(t, fmt.Sprint(count, " bytes"), p, noiseBytes(n, count), api.ErrForm)
			}
		}
	}
	// With the sizes of one set, the parameters of another one.
	for _, p := range []api.Lattice{kind(1), kind(2), kind(3)} {
		for _, q := range []api.Lattice{kind(1), kind(2), kind(3)} {
			if _, _, size := mlkey.Sizes(q); p != q {
				unparsed(t, "another set's signature", p, strings.Repeat("\x00", size), api.ErrForm)
			}
		}
	}
}

// wrongHints returns ends of signatures that encode no hints, and what is wrong with them.
func wrongHints(p api.Lattice) map[string]string {
	filled := func(at, n byte) []byte {
		// Ends that are 0 up to one of them, and n from there on.
		return append(make([]byte, at), slices.Repeat([]byte{n}, p.K-int(at))...)
	}
	last := byte(p.K - 1)
	wrong := map[string]string{
		"an index that is not counted":                hintBytes(p, []byte{1}, filled(0, 0)),
		"an index behind the counted ones":            hintBytes(p, append(make([]byte, p.Omega-1), 1), filled(last, 0)),
		"an end above omega":                          hintBytes(p, nil, filled(0, byte(p.Omega+1))),
		"an end far above omega":                      hintBytes(p, nil, filled(last, 255)),
		"the end above omega, and increasing indices": hintBytes(p, increasing(p.Omega), filled(last, byte(p.Omega+1))),
	}
	if p.Omega > 1 {
		wrong["equal indices"] = hintBytes(p, []byte{7, 7}, filled(0, 2))
		wrong["equal indices of 0"] = hintBytes(p, []byte{0, 0}, filled(last, 2))
		wrong["decreasing indices"] = hintBytes(p, []byte{8, 7}, filled(last, 2))
		wrong["decreasing indices at the end"] = hintBytes(p, append(increasing(p.Omega-1), 0), filled(0, byte(p.Omega)))
		wrong["an index too many"] = hintBytes(p, []byte{3, 4}, filled(last, 1))
	}
	if p.K > 1 {
		ends := filled(0, 1)
		ends[last] = 0
		wrong["a decreasing end"] = hintBytes(p, []byte{3}, ends)
		wrong["a decreasing end without indices"] = hintBytes(p, nil, ends)
	}
	return wrong
}

// increasing returns the first indices.
func increasing(count int) []byte {
	b := make([]byte, count)
	for i := range b {
		b[i] = byte(i)
	}
	return b
}

func TestParseOfWrongHints(t *testing.T) {
	for n, p := range allSets() {
		_, _, size := mlkey.Sizes(p)
		for what, tail := range wrongHints(p) {
			unparsed(t, what, p, noiseBytes(n, size-len(tail))+tail, api.ErrForm)
		}
	}
}

func TestParseWithoutAValidSet(t *testing.T) {
	for _, p := range wrongSets() {
		for _, count := range []int{0, 1, 669, 2419, 2420, 3309, 4627} {
			unparsed(t, fmt.Sprint(count, " bytes"), p, strings.Repeat("\x00", count), api.ErrArg)
		}
	}
	unparsed(t, "hints of a wrong form", set(1, func(p *api.Lattice) { p.Eta = 3 }), strings.Repeat("\xff", 2420), api.ErrArg)
}

func TestParseReturnsNewMemory(t *testing.T) {
	p := kind(4)
	s := strings.Repeat("\x00", 669)
	hash, z, hints, _ := Parse(p, s)
	if unsafe.StringData(hash) == unsafe.StringData(s) {
		t.Error("the challenge hash is a part of the signature")
	}
	z[0][0] = 5
	if hints[0][0] != 0 {
		t.Error("z and the hints share memory")
	}
	parsed(t, p, s, hash, full(1, 131072), full(1, 0))
}

// P14.2

func TestInnerOfForgedSignatures(t *testing.T) {
	x := tables.Make()
	for n, p := range allSets() {
		public, message, most := emptyKey(p, n), noiseBytes(n, 3*n), largest(p)
		for k, z := range [][]api.Poly{mixed(n, p.L, -most, most), full(p.L, 0), full(p.L, most), full(p.L, -most)} {
			for _, count := range []int{0, 1, p.Omega} {
				hints := ones(n+k, p.K, count)
				sig := forged(&x, p, public, message, z, hints)
				inner(t, fmt.Sprint("Inner of a forged signature with ", count, " hints"), &x, p, public, message, sig, true)
			}
		}
	}
}

func TestInnerOfEachRow(t *testing.T) {
	x := tables.Make()
	for n, p := range allSets() {
		public, z := emptyKey(p, n), mixed(n, p.L, -1000, 1000)
		hints := ones(n, p.K, p.Omega)
		sig := forged(&x, p, public, "message", z, hints)
		for r := range p.K {
			for _, i := range []int{0, 100, 255} {
				other := slices.Clone(hints)
				// A hint less, or, if there is none there, one instead of another one.
				if other[r][i] == 0 {
					indices := slices.IndexFunc(other, func(q api.Poly) bool { return q != api.Poly{} })
					other[indices][slices.Index(other[indices][:], 1)] = 0
				}
				other[r][i] = 1 - hints[r][i]
				inner(t, fmt.Sprint("Inner with another hint in row ", r), &x, p, public, "message", sigOf(p, sig[:p.Lambda/4], z, other), false)
			}
		}
		for s := range p.L {
			for _, i := range []int{0, 100, 255} {
				other := slices.Clone(z)
				other[s][i] = modulo(other[s][i]+1, prime)
				inner(t, fmt.Sprint("Inner with another polynomial ", s), &x, p, public, "message", sigOf(p, sig[:p.Lambda/4], other, hints), false)
			}
		}
	}
}

func TestInnerAtTheBound(t *testing.T) {
	x := tables.Make()
	for n, p := range allSets() {
		public, hints := emptyKey(p, n), ones(n, p.K, p.Omega)
		for s := range p.L {
			for _, i := range []int{0, modulo(noise(n), 256), 255} {
				for _, one := range []struct {
					coefficient int
					want        bool
				}{{largest(p), true}, {-largest(p), true}, {largest(p) + 1, false}, {-largest(p) - 1, false}} {
					z := mixed(n, p.L, -1000, 1000)
					z[s][i] = modulo(one.coefficient, prime)
					sig := forged(&x, p, public, "message", z, hints)
					inner(t, fmt.Sprint("Inner with the coefficient ", one.coefficient), &x, p, public, "message", sig, one.want)
				}
			}
		}
		for _, c := range []int{p.Gamma1, 1 - p.Gamma1, p.Gamma1 - 1, p.Gamma1 - p.Tau} {
			sig := forged(&x, p, public, "message", full(p.L, c), hints)
			// The last of these coefficients lies beyond the bound of any valid set, as Eta is at least 2.
			inner(t, fmt.Sprint("Inner with all coefficients ", c), &x, p, public, "message", sig, false)
		}
	}
}

func TestForgedSignaturesAreThoseOfGo(t *testing.T) {
	x := tables.Make()
	for k := 1; k <= 3; k++ {
		p := kind(k)
		public := emptyKey(p, k)
		for n, c := range []int{1, largest(p), -largest(p), largest(p) + 1, -largest(p) - 1, p.Gamma1} {
			z := mixed(n, p.L, -1000, 1000)
			z[n%p.L][n*50] = modulo(c, prime)
			message, _ := mlsign.Message("context", "message")
			sig := forged(&x, p, public, message, z, ones(n, p.K, p.Omega-n))
			err := mldsa.Verify(gosPublic(t, k, public), []byte("message"), []byte(sig), &mldsa.Options{Context: "context"})
			if want := n < 3; (err == nil) != want {
				t.Errorf("Go's answer to the coefficient %d is %v", c, err)
			}
			inner(t, fmt.Sprint("Inner with the coefficient ", c), &x, p, public, message, sig, n < 3)
		}
	}
}

func TestInnerOfSignatures(t *testing.T) {
	x := tables.Make()
	for n, p := range sets() {
		public, secret := pairOf(x, p, n)
		other, _ := pairOf(x, p, n+100)
		for k, message := range []string{"", "m", noiseBytes(n, 1000)} {
			sig, _ := mlsign.Inner(x, p, secret, message, noiseBytes(10*n+k, 32))
			inner(t, "Inner", &x, p, public, message, sig, true)
			inner(t, "Inner of a longer message", &x, p, public, message+"\x00", sig, false)
			inner(t, "Inner with another key", &x, p, other, message, sig, false)
			inner(t, "Inner with another seed of the matrix", &x, p, flipped(public, 0, 1), message, sig, false)
			inner(t, "Inner with another last high part", &x, p, flipped(public, len(public)-1, 128), message, sig, false)
			inner(t, "Inner with another challenge hash", &x, p, public, message, flipped(sig, p.Lambda/4-1, 128), false)
			inner(t, "Inner with another z", &x, p, public, message, flipped(sig, p.Lambda/4, 1), false)
		}
	}
}

func TestInnerOfLongMessages(t *testing.T) {
	x := tables.Make()
	p := kind(4)
	public, secret := pairOf(x, p, 1)
	// mu is the hash of 64 bytes more than the message has: these lengths lie about the ends of the sponge's blocks, and beyond MaxMessage.
	for _, count := range []int{70, 71, 72, 73, 207, 208, 209, 60000, 60257, 60258, 200000} {
		message := noiseBytes(count, count)
		sig, _ := mlsign.Inner(x, p, secret, message, noiseBytes(1, 32))
		inner(t, "Inner", &x, p, public, message, sig, true)
		inner(t, "Inner of another message", &x, p, public, flipped(message, count-1, 4), sig, false)
	}
}

func TestInnerOfAnyBytes(t *testing.T) {
	x := tables.Make()
	for n, p := range allSets() {
		size, _, long := mlkey.Sizes(p)
		tail := hintBytes(p, nil, make([]byte, p.K))
		for _, public := range []string{noiseBytes(n, size), strings.Repeat("\xff", size), strings.Repeat("\x00", size)} {
			// The last z lies below the bound of any set, so that its challenge hash decides.
			for _, sig := range []string{noiseBytes(n, long), strings.Repeat("\x00", long), sigOf(p, noiseBytes(n, p.Lambda/4), mixed(n, p.L, -128, 128), full(p.K, 0))} {
				inner(t, "Inner", &x, p, public, "message", sig[:long-len(tail)]+tail, false)
			}
		}
	}
}

func TestInnerWithOtherTables(t *testing.T) {
	small := api.Lattice{K: 2, L: 3, Eta: 4, Tau: 7, Gamma1: 524288, Gamma2: 261888, Omega: 100, Lambda: 192}
	for n, x := range otherTables() {
		for _, p := range []api.Lattice{kind(1), kind(4), small} {
			empty := emptyKey(p, n)
			sig := forged(&x, p, empty, "message", mixed(n, p.L, -largest(p), largest(p)), ones(n, p.K, p.Omega))
			inner(t, "Inner of a forged signature", &x, p, empty, "message", sig, true)
			inner(t, "Inner of another message", &x, p, empty, "other", sig, false)
			inner(t, "Inner of a signature of no key", &x, p, noiseBytes(n, 32+320*p.K), "message", sig, false)
			if public, secret := pairOf(x, p, n); n < 2 {
				sig, _ := mlsign.Inner(x, p, secret, "message", noiseBytes(n, 32))
				inner(t, "Inner", &x, p, public, "message", sig, true)
				inner(t, "Inner of another message", &x, p, public, "other", sig, false)
			}
		}
	}
}

// TestProductsAreThoseOfTheTransforms: with zeros as roots, the product of two polynomials is that of their first coefficients, so that public keys whose first coefficients are 0 can be forged as if they were empty. Other products than chapter 8's would not accept them.
func TestProductsAreThoseOfTheTransforms(t *testing.T) {
	x := tables.Make()
	x.Zetas = [256]int{}
	for n, p := range []api.Lattice{kind(1), kind(2), kind(4)} {
		public := noiseBytes(n, 32)
		for r := range p.K {
			public += "\x00\x00" + noiseBytes(50*n+r, 318)
		}
		sig := forged(&x, p, public, "message", mixed(n, p.L, -largest(p), largest(p)), ones(n, p.K, p.Omega))
		inner(t, "Inner", &x, p, public, "message", sig, true)
	}
}

func TestInnerOfWrongArguments(t *testing.T) {
	x := tables.Make()
	wrong := func(what string, p api.Lattice, public, sig string, want api.Errno) {
		t.Helper()
		got, e := Inner(x, p, public, "message", sig)
		same(t, fmt.Sprint("Inner of ", what, " with ", p), got, e, false, want)
	}
	for n, p := range allSets() {
		public, hints := emptyKey(p, n), full(p.K, 0)
		sig := forged(&x, p, public, "message", mixed(n, p.L, -9, 9), hints)
		wrong("no public key", p, "", sig, api.ErrForm)
		wrong("a short public key", p, public[1:], sig, api.ErrForm)
		wrong("a long public key", p, public+"\x00", sig, api.ErrForm)
		wrong("no signature", p, public, "", api.ErrForm)
		wrong("a short signature", p, public, sig[:len(sig)-1], api.ErrForm)
		wrong("a signature without its first byte", p, public, sig[1:], api.ErrForm)
		wrong("a long signature", p, public, sig+"\x00", api.ErrForm)
		wrong("neither", p, "", "", api.ErrForm)
		wrong("both exchanged", p, sig, public, api.ErrForm)
		for what, tail := range wrongHints(p) {
			wrong(what, p, public, sig[:len(sig)-len(tail)]+tail, api.ErrForm)
			// A z that is too large has no say: Parse comes first.
			large := forged(&x, p, public, "message", full(p.L, p.Gamma1), hints)
			wrong(what, p, public, large[:len(sig)-len(tail)]+tail, api.ErrForm)
		}
	}
	for _, p := range wrongSets() {
		wrong("a wrong set", p, strings.Repeat("\x00", 1312), strings.Repeat("\x00", 2420), api.ErrArg)
		wrong("a wrong set and a wrong form", p, strings.Repeat("\x00", 1312), strings.Repeat("\xff", 2420), api.ErrArg)
		wrong("a wrong set and nothing else", p, "", "", api.ErrArg)
	}
}

// gosPublic returns Go's own public key.
func gosPublic(t *testing.T, kind int, public string) *mldsa.PublicKey {
	t.Helper()
	params := []mldsa.Parameters{1: mldsa.MLDSA44(), 2: mldsa.MLDSA65(), 3: mldsa.MLDSA87()}[kind]
	key, err := mldsa.NewPublicKey(params, []byte(public))
	if err != nil {
		t.Fatal(err)
	}
	return key
}

// TestInnerOfPublishedSignatures: seeds, messages of Inner, and SHA-256 of their signatures, from the tests that NIST publishes for the rejections of ML-DSA (draft-celi-acvp-ml-dsa, tables 1 and 2), as the tests of Go's own ML-DSA quote them.
func TestInnerOfPublishedSignatures(t *testing.T) {
	x := tables.Make()
	for _, one := range []struct {
		kind                int
		seed, message, want string
	}{
		{1, "5c624fcc1862452452d0c665840d8237f43108e5499edcdc108fbc49d596e4b7", "951fdf5473a4cba6d9e5b5db7e79fb8173921ba5b13e9271401b8f907b8b7d5b", "dcc71a421bc6ffafb7df0c7f6d018a19ada154d1e2ee360ed533cecd5dc980ad"},
		{1, "836eabedb4d2cd9be6a4d957cf5ee6bf489304136864c55c2c5f01da5047d18b", "199a0ab735e9004163dd02d319a61cfe81638e3bf47bb1e90e90d6e3ea545247", "a2608bc27e60541d27b6a14f460d54a48c0298dcc3f45999f29047a3135c4941"},
		{2, "464756a985e5df03739d95dd309c1ed9c5b04254cc294e7e7eb9b9365ee15117", "491101bba044de6e44a63796c33cda051bb05a60725b87af4ba9db940c03ac09", "8e08ea0c8db941685b9905a73b0b57bad3500b1f73490480b24375b41230cc04"},
		{2, "235a48db4ca7916b884f424a8586efd517e87c64aecec0fce9a3cc212ba1522e", "f8ce85cb2ec474ffbf5a3ffae029ce6f4526b8d597655067f97f438b81071e9b", "ae9531a01738615b6d33c77b3ff618a86e101fdc4c8504681f0edfa64511ad63"},
		{3, "0d58219132746be077dfe821e9f8fd87857b28ab91d6a567e312a73e2636032c", "3aa49ef72d010aec19383ba1e83ec2dd3dcc207a96ffceb9ffa269e3e3d66400", "5049dc39045618b903c71595b3a3e07a731f95d37304623acc98bcef4258b4ca"},
		{3, "146c47ab9f88408eb76a813294d533b29d7e0fda75da5a4e7c69eb61efeebb78", "82c44f998a8d24f056084d0e80ecfd8434493385a284c69974923c270d397782", "cffc5988a351e14a3ee1282f042a143679c4503814296b27993949a7ff966f57"},
	} {
		p := kind(one.kind)
		seed, _ := hex.DecodeString(one.seed)
		message, _ := hex.DecodeString(one.message)
		public, secret, _ := mlkey.Pair(x, p, string(seed))
		sig, _ := mlsign.Inner(x, p, secret, string(message), strings.Repeat("\x00", 32))
		if got := sha256.Sum256([]byte(sig)); hex.EncodeToString(got[:]) != one.want {
			t.Errorf("the signature of %s has the hash %x, want %s", one.message, got, one.want)
		}
		inner(t, "Inner", &x, p, public, string(message), sig, true)
		inner(t, "Inner of another message", &x, p, public, string(message[1:]), sig, false)
	}
}

// P14.3

func TestVerifyIsInnerOfTheMessage(t *testing.T) {
	x := tables.Make()
	for n, p := range allSets() {
		public := emptyKey(p, n)
		for _, one := range [][2]string{{"", ""}, {"", "s"}, {"c", ""}, {"context", "message"}, {noiseBytes(n, 255), noiseBytes(n, 60000)}} {
			message := string([]byte{0, byte(len(one[0]))}) + one[0] + one[1]
			sig := forged(&x, p, public, message, mixed(n, p.L, -9, 9), ones(n, p.K, 1))
			got, e := Verify(x, p, public, one[1], one[0], sig)
			same(t, fmt.Sprint("Verify with ", p), got, e, true, api.OK)
			got, e = Verify(x, p, public, one[1]+"s", one[0], sig)
			if len(one[1]) < 60000 {
				same(t, fmt.Sprint("Verify of another string with ", p), got, e, false, api.OK)
			} else {
				same(t, fmt.Sprint("Verify of too long a string with ", p), got, e, false, api.ErrLong)
			}
			got, e = Verify(x, p, public, message, "", sig)
			if len(message) <= 60000 {
				same(t, fmt.Sprint("Verify of the whole message with ", p), got, e, false, api.OK)
			}
		}
	}
}

func TestVerifyTellsTheContextFromTheRest(t *testing.T) {
	x := tables.Make()
	p := kind(4)
	public, sig := signed(t, x, p, 1, "c", "ab", "")
	for _, one := range [][2]string{{"ab", "c"}, {"a", "bc"}, {"", "abc"}, {"abc", ""}, {"c", "ab"}, {"ab\x00", "c"}, {"ab", "c\x00"}} {
		got, e := Verify(x, p, public, one[1], one[0], sig)
		same(t, fmt.Sprintf("Verify of %q in %q", one[1], one[0]), got, e, one == [2]string{"ab", "c"}, api.OK)
	}
}

func TestVerifyOfWrongArguments(t *testing.T) {
	x := tables.Make()
	long, longer := strings.Repeat("c", 256), strings.Repeat("s", 60001)
	wrong := func(what string, p api.Lattice, public, s, context, sig string, want api.Errno) {
		t.Helper()
		got, e := Verify(x, p, public, s, context, sig)
		same(t, fmt.Sprint("Verify of ", what, " with ", p), got, e, false, want)
	}
	for n, p := range allSets() {
		public := emptyKey(p, n)
		inLong := forged(&x, p, public, "\x00\x00"+long+"s", mixed(n, p.L, -9, 9), full(p.K, 0))
		ofLonger := forged(&x, p, public, "\x00\x01c"+longer, mixed(n, p.L, -9, 9), full(p.K, 0))
		wrong("a long context", p, public, "s", long, inLong, api.ErrLong)
		wrong("a long string", p, public, longer, "c", ofLonger, api.ErrLong)
		wrong("both", p, public, longer, long, inLong, api.ErrLong)
		wrong("a long context and no public key", p, "", "s", long, inLong, api.ErrLong)
		wrong("a long string and no signature", p, public, longer, "c", "", api.ErrLong)
		wrong("no public key", p, "", "s", "c", inLong, api.ErrForm)
		wrong("a short public key", p, public[1:], "s", "c", inLong, api.ErrForm)
		wrong("no signature", p, public, "s", "c", "", api.ErrForm)
		wrong("a short signature", p, public, "s", "c", inLong[1:], api.ErrForm)
		for what, tail := range wrongHints(p) {
			wrong(what, p, public, "s", "c", inLong[:len(inLong)-len(tail)]+tail, api.ErrForm)
		}
	}
	for _, p := range wrongSets() {
		wrong("a long context", p, "", "s", long, "", api.ErrLong)
		wrong("a long string", p, "", longer, "c", "", api.ErrLong)
		wrong("a wrong set", p, strings.Repeat("\x00", 1312), "s", "c", strings.Repeat("\x00", 2420), api.ErrArg)
		wrong("a wrong set", p, "", "s", "c", "", api.ErrArg)
	}
}

func TestVerifyOfGosSignatures(t *testing.T) {
	x := tables.Make()
	for k := 1; k <= 3; k++ {
		p := kind(k)
		for n, one := range [][2]int{{0, 0}, {0, 1}, {1, 0}, {5, 100}, {254, 1000}, {255, 60000}, {137, 8}, {0, 136}} {
			params := []mldsa.Parameters{1: mldsa.MLDSA44(), 2: mldsa.MLDSA65(), 3: mldsa.MLDSA87()}[k]
			key, err := mldsa.NewPrivateKey(params, []byte(noiseBytes(n, 32)))
			if err != nil {
				t.Fatal(err)
			}
			context, s := noiseBytes(n, one[0]), noiseBytes(n+100, one[1])
			sig, err := key.SignDeterministic([]byte(s), &mldsa.Options{Context: context})
			if err != nil {
				t.Fatal(err)
			}
			public := string(key.PublicKey().Bytes())
			got, e := Verify(x, p, public, s, context, string(sig))
			same(t, "Verify", got, e, true, api.OK)
			got, e = Verify(x, p, public, s, noiseBytes(n+1, 9), string(sig))
			same(t, "Verify in another context", got, e, false, api.OK)
		}
	}
}

// TestVerifyAnswersAsGoDoes: with bits of the signature, of the public key, of the string and of the context changed.
func TestVerifyAnswersAsGoDoes(t *testing.T) {
	x := tables.Make()
	for k := 1; k <= 3; k++ {
		p := kind(k)
		public, sig := signed(t, x, p, k, "message", "context", noiseBytes(k, 32))
		accepted := 0
		for n := range 200 {
			all := [4]string{sig, public, "message", "context"}
			part := n % 8
			if part < len(all) {
				at := modulo(noise(1000*k+n), len(all[part]))
				if part == 0 && n%16 == 0 {
					at = len(sig) - 1 - modulo(at, p.Omega+p.K)
				}
				all[part] = flipped(all[part], at, 1<<(n/8%8))
			}
			got, e := Verify(x, p, all[1], all[2], all[3], all[0])
			err := mldsa.Verify(gosPublic(t, k, all[1]), []byte(all[2]), []byte(all[0]), &mldsa.Options{Context: all[3]})
			if got != (err == nil) || got && e != api.OK {
				t.Errorf("Verify of case %d of kind %d: %v and error %d, but Go's answer is %v", n, k, got, e, err)
			}
			if got {
				accepted++
			}
		}
		if accepted != 100 {
			t.Errorf("kind %d: %d signatures are accepted, want 100", k, accepted)
		}
	}
}

// P14.4

func TestWhatAGeneratedKeySignsIsAccepted(t *testing.T) {
	x := tables.Make()
	for n, p := range sets() {
		public, secret := pairOf(x, p, n)
		other, _ := pairOf(x, p, n+100)
		for k, one := range [][2]string{{"", ""}, {"context", "message"}, {noiseBytes(n, 255), noiseBytes(n, 60000)}} {
			for _, random := range []string{"", noiseBytes(10*n+k, 32)} {
				context, s := one[0], one[1]
				sig, _ := mlsign.Sign(x, p, secret, s, context, random)
				got, e := Verify(x, p, public, s, context, sig)
				same(t, fmt.Sprint("Verify with ", p), got, e, true, api.OK)
				got, e = Verify(x, p, public, s, context+"c", sig)
				if len(context) < 255 {
					same(t, fmt.Sprint("Verify in another context with ", p), got, e, false, api.OK)
				}
				got, e = Verify(x, p, public, "s"+s[:len(s)/2], context, sig)
				same(t, fmt.Sprint("Verify of another string with ", p), got, e, false, api.OK)
				got, e = Verify(x, p, other, s, context, sig)
				same(t, fmt.Sprint("Verify with another key and ", p), got, e, false, api.OK)
			}
		}
	}
}

func TestManyKeysAndSignatures(t *testing.T) {
	x := tables.Make()
	for k := 1; k <= 4; k++ {
		p := kind(k)
		for n := range 40 {
			s, context := noiseBytes(n, 5*n), noiseBytes(n+50, n)
			public, sig := signed(t, x, p, 100*k+n, s, context, noiseBytes(n, n%2*32))
			got, e := Verify(x, p, public, s, context, sig)
			same(t, fmt.Sprint("Verify with ", p), got, e, true, api.OK)
		}
	}
}

func TestVerifyingIsDeterministic(t *testing.T) {
	x := tables.Make()
	for n, p := range sets() {
		public, sig := signed(t, x, p, n, "message", "context", "")
		for range 3 {
			got, e := Verify(x, p, strings.Clone(public), "message", "context", strings.Clone(sig))
			same(t, fmt.Sprint("Verify with ", p), got, e, true, api.OK)
			got, e = Verify(x, p, public, "message", "other", sig)
			same(t, fmt.Sprint("Verify in another context with ", p), got, e, false, api.OK)
		}
	}
	if x != tables.Make() {
		t.Error("the tables have changed")
	}
}

// P14.5

func TestASignatureOfAnotherLengthIsRejected(t *testing.T) {
	x := tables.Make()
	p := kind(4)
	public, sig := signed(t, x, p, 1, "message", "context", "")
	for count := range 2 * len(sig) {
		other := strings.Repeat(sig, 2)[:count]
		got, e := Verify(x, p, public, "message", "context", other)
		if count == len(sig) {
			same(t, "Verify", got, e, true, api.OK)
		} else {
			same(t, fmt.Sprint("Verify with ", count, " bytes"), got, e, false, api.ErrForm)
		}
	}
	for n, p := range sets() {
		public, sig := signed(t, x, p, n, "message", "context", "")
		for _, other := range []string{"", sig[1:], sig[:len(sig)-1], sig + "\x00", "\x00" + sig, sig + sig, sig[:p.Lambda/4], sig[:len(sig)-p.K], public} {
			got, e := Verify(x, p, public, "message", "context", other)
			same(t, fmt.Sprint("Verify with ", len(other), " bytes and ", p), got, e, false, api.ErrForm)
		}
	}
}

func TestASignatureWithHintsInAnotherOrderIsRejected(t *testing.T) {
	x := tables.Make()
	for n, p := range sets() {
		public, z := emptyKey(p, n), mixed(n, p.L, -9, 9)
		message, _ := mlsign.Message("context", "message")
		sig := forged(&x, p, public, message, z, ones(n, p.K, p.Omega))
		changed := func(what string, at, other int, want api.Errno) {
			t.Helper()
			b := []byte(sig)
			b[at], b[other] = b[other], b[at]
			got, e := Verify(x, p, public, "message", "context", string(b))
			same(t, fmt.Sprint("Verify with ", what, " and ", p), got, e, false, want)
		}
		got, e := Verify(x, p, public, "message", "context", sig)
		same(t, fmt.Sprint("Verify with ", p), got, e, true, api.OK)
		first, from := len(sig)-p.Omega-p.K, 0
		for r := range p.K {
			to := int(sig[len(sig)-p.K+r])
			for i := from; i+1 < to; i++ {
				changed("two hints exchanged", first+i, first+i+1, api.ErrForm)
				changed("a hint exchanged with the last one", first+i, first+to-1, api.ErrForm)
			}
			from = to
		}
	}
	// One hint that has changed places with what follows the hints.
	p := kind(4)
	public := emptyKey(p, 1)
	hints := full(1, 0)
	hints[0][9] = 1
	sig := forged(&x, p, public, "\x00\x00", full(1, 1), hints)
	got, e := Verify(x, p, public, "", "", sig)
	same(t, "Verify", got, e, true, api.OK)
	got, e = Verify(x, p, public, "", "", sig[:608]+"\x00\x09"+sig[610:])
	same(t, "Verify with a hint behind its end", got, e, false, api.ErrForm)
}

func TestARealSignatureWithHintsInAnotherOrderIsRejected(t *testing.T) {
	x := tables.Make()
	for k := 1; k <= 4; k++ {
		p := kind(k)
		public, sig := signed(t, x, p, k, "message", "context", "")
		at, tried := len(sig)-p.Omega-p.K, 0
		for i := at; i+1 < len(sig)-p.K; i++ {
			b := []byte(sig)
			if b[i] == b[i+1] {
				continue
			}
			b[i], b[i+1] = b[i+1], b[i]
			tried++
			if got, e := Verify(x, p, public, "message", "context", string(b)); got {
				t.Errorf("kind %d: a signature with hints %d and %d exchanged is accepted, with error %d", k, i-at, i-at+1, e)
			}
		}
		if tried < 10 {
			t.Errorf("kind %d: only %d hints could be exchanged", k, tried)
		}
	}
}

func TestASignatureWithAChangedBitIsRejected(t *testing.T) {
	x := tables.Make()
	p := kind(4)
	public, sig := signed(t, x, p, 2, "message", "context", "")
	for i := range 8 * len(sig) {
		if got, e := Verify(x, p, public, "message", "context", flipped(sig, i/8, 1<<(i%8))); got {
			t.Errorf("a signature with bit %d changed is accepted, with error %d", i, e)
		}
	}
	for i := range 8 * len(public) {
		if got, e := Verify(x, p, flipped(public, i/8, 1<<(i%8)), "message", "context", sig); got || e != api.OK {
			t.Errorf("with bit %d of the public key changed: %v and error %d", i, got, e)
		}
	}
}
