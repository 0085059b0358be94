package mlsign

import (
	"crypto"

	"crypto/mldsa"
	"crypto/sha256"
	"crypto/sha3"
	"encoding/hex"
	"fmt"
	"math"
	"math/big"
	"slices"
	"strings"
	"testing"

	"sigil/api"
	"sigil/mlkey"
	"sigil/ntt"
	"sigil/round"
	"sigil/sample"
	"sigil/sponge"
	"sigil/tables"
)

const prime = 8380417

// zeros are the bytes that an empty random stands for.
var zeros = strings.Repeat("\x00", 32)

// noise returns the number n of a sequence without a pattern, from all ints.
func noise(n int) int {
	x := uint64(n)*0x9e3779b97f4a7c15 + 0xd1b54a32d192ed03
	x = (x ^ x>>30) * 0xbf58476d1ce4e5b9
	x = (x ^ x>>27) * 0x94d049bb133111eb
	return int(x ^ x>>31)
}

// noiseBytes returns bytes without a pattern.
func noiseBytes(n, count int) string {
	b := make([]byte, count)
	for i := range b {
		b[i] = byte(noise(n*70000 + i))
	}
	return string(b)
}

// modulo returns the number from 0 to m - 1 that is congruent to x.
func modulo(x, m int) int {
	return ((x % m) + m) % m
}

// centred returns the number about 0 that is congruent to x modulo m.
func centred(x, m int) int {
	x = modulo(x, m)
	if x > m/2 {
		x -= m
	}
	return x
}

// mixed returns so many polynomials with coefficients from low to high, without a pattern.
func mixed(n, many, low, high int) []api.Poly {
	l := make([]api.Poly, many)
	for k := range l {
		for i := range l[k] {
			l[k][i] = low + modulo(noise(n*7000+k*256+i), high-low+1)
		}
	}
	return l
}

// full returns so many polynomials with the same coefficient everywhere.
func full(many, x int) []api.Poly {
	l := make([]api.Poly, many)
	for k := range l {
		for i := range l[k] {
			l[k][i] = x
		}
	}
	return l
}

// set returns the parameters of a kind, changed.
func set(kind int, change func(p *api.Lattice)) api.Lattice {
	p, _ := round.Set(kind)
	change(&p)
	return p
}

// sets returns valid lattice parameters with which there are signatures: those of the kinds, and others with as few and as many polynomials as may be.
func sets() []api.Lattice {
	var all []api.Lattice
	for kind := 1; kind <= 4; kind++ {
		all = append(all, set(kind, func(*api.Lattice) {}))
	}
	return append(all,
		api.Lattice{K: 8, L: 8, Eta: 4, Tau: 64, Gamma1: 524288, Gamma2: 261888, Omega: 100, Lambda: 192},
		api.Lattice{K: 1, L: 8, Eta: 2, Tau: 1, Gamma1: 524288, Gamma2: 95232, Omega: 1, Lambda: 256},
		api.Lattice{K: 2, L: 3, Eta: 4, Tau: 5, Gamma1: 131072, Gamma2: 95232, Omega: 7, Lambda: 128},
		api.Lattice{K: 3, L: 1, Eta: 2, Tau: 33, Gamma1: 131072, Gamma2: 261888, Omega: 50, Lambda: 256})
}

// wrongSets returns lattice parameters of which one is not valid.
func wrongSets() []api.Lattice {
	all := []api.Lattice{{}}
	change := func(f func(p *api.Lattice)) {
		all = append(all, set(1, f))
	}
	for _, n := range []int{0, -1, 101, 1<<32 + 2, math.MaxInt, math.MinInt} {
		change(func(p *api.Lattice) { p.K = n })
		change(func(p *api.Lattice) { p.L = n })
		change(func(p *api.Lattice) { p.Eta = n })
		change(func(p *api.Lattice) { p.Tau = n })
		change(func(p *api.Lattice) { p.Gamma1 = n })
		change(func(p *api.Lattice) { p.Gamma2 = n })
		change(func(p *api.Lattice) { p.Omega = n })
		change(func(p *api.Lattice) { p.Lambda = n })
	}
	change(func(p *api.Lattice) { p.K = 9 })
	change(func(p *api.Lattice) { p.L = 9 })
	change(func(p *api.Lattice) { p.Eta = 3 })
	change(func(p *api.Lattice) { p.Tau = 65 })
	change(func(p *api.Lattice) { p.Gamma1 = 262144 })
	change(func(p *api.Lattice) { p.Gamma2 = 131072 })
	return all
}

// otherTables returns tables that are not those of chapter 2.
func otherTables() []api.Tables {
	rounds, turns, zetas, all := tables.Make(), tables.Make(), tables.Make(), api.Tables{}
	rounds.Rounds[3] ^= 1 << 40
	turns.Turns[7] += 5
	for i := range zetas.Zetas {
		zetas.Zetas[i] = noise(i)
		all.Zetas[i] = noise(-i)
	}
	zetas.Zetas[1], zetas.Zetas[2] = math.MinInt, math.MaxInt
	for i := range all.Turns {
		all.Turns[i] = noise(i)
	}
	all.Turns[1], all.Turns[2], all.Rounds[0] = math.MinInt, math.MaxInt, math.MaxUint64
	return []api.Tables{rounds, turns, zetas, all, {}}
}

// shakeOf returns n bytes of SHAKE256 of s.
func shakeOf(x *api.Tables, s string, n int) string {
	b, _ := sponge.Shake(*x, api.Shake256, s, n)
	return b
}

// packed returns the numbers in so many bits each, computed as one long number.
func packed(l []int, wide int) string {
	sum := new(big.Int)
	for i, x := range l {
		n := big.NewInt(int64(x))
		sum.Add(sum, n.Lsh(n, uint(i*wide)))
	}
	b := sum.FillBytes(make([]byte, len(l)*wide/8))
	slices.Reverse(b)
	return string(b)
}

// partsOf returns the high part and the low part of x, as FIPS 204 tells them.
func partsOf(x, g int) (int, int) {
	x = modulo(x, prime)
	low := centred(x, 2*g)
	if x-low == prime-1 {
		return 0, low - 1
	}
	return (x - low) / (2 * g), low
}

// highOf returns the high parts of p.
func highOf(p api.Poly, g int) []int {
	l := make([]int, len(p))
	for i, x := range p {
		l[i], _ = partsOf(x, g)
	}
	return l
}

// sum returns a plus n times b, coefficient by coefficient.
func sum(a api.Poly, n int, b api.Poly) api.Poly {
	for i := range a {
		a[i] = modulo(a[i]+n*b[i], prime)
	}
	return a
}

// trial is what an attempt is judged by: the greatest coefficients of z, of the low parts and of c times low, and how many ones the hints contain.
type trial struct {
	z, low, lost, ones int
}

// bounds are what may just not be, and of ones just not be exceeded.
func bounds(p api.Lattice) trial {
	return trial{p.Gamma1 - p.Tau*p.Eta, p.Gamma2 - p.Tau*p.Eta, p.Gamma2, p.Omega}
}

// fails tells by what an attempt fails.
func fails(p api.Lattice, x trial) [4]bool {
	b := bounds(p)
	return [4]bool{x.z >= b.z, x.low >= b.low, x.lost >= b.lost, x.ones > b.ones}
}

// attemptOf is the attempt with a number, as the chapter tells it: the signature, if it does not fail, and what it is judged by.
func attemptOf(x *api.Tables, p api.Lattice, matrix, polys [][]api.Poly, mu, seed string, n int) (string, trial) {
	y := sample.Masks(*x, p, seed, p.L*n)
	w := mlkey.Rows(*x, matrix, y)
	wide, maskWide := 6, 18
	if p.Gamma2 == 261888 {
		wide = 4
	}
	if p.Gamma1 == 524288 {
		maskWide = 20
	}
	hash := mu
	for _, q := range w {
		hash += packed(highOf(q, p.Gamma2), wide)
	}
	hash = shakeOf(x, hash, p.Lambda/4)
	c := sample.Ball(*x, hash, p.Tau)
	var found trial
	sig := hash
	for i, q := range polys[0] {
		var l []int
		for _, k := range sum(y[i], 1, ntt.Product(*x, c, q)) {
			k = centred(k, prime)
			found.z = max(found.z, k, -k)
			l = append(l, p.Gamma1-k)
		}
		if found.z < p.Gamma1 {
			sig += packed(l, maskWide)
		}
	}
	var indices, ends []byte
	for r := range w {
		rest := sum(w[r], -1, ntt.Product(*x, c, polys[1][r]))
		lost := ntt.Product(*x, c, polys[2][r])
		all := sum(rest, 1, lost)
		for i := range rest {
			high, low := partsOf(rest[i], p.Gamma2)
			found.low = max(found.low, low, -low)
			k := centred(lost[i], prime)
			found.lost = max(found.lost, k, -k)
			if other, _ := partsOf(all[i], p.Gamma2); other != high {
				found.ones++
				indices = append(indices, byte(i))
			}
		}
		ends = append(ends, byte(len(indices)))
	}
	if fails(p, found) != [4]bool{} {
		return "", found
	}
	indices = append(indices, make([]byte, p.Omega-len(indices))...)
	return sig + string(indices) + string(ends), found
}

// signOf is Inner of valid arguments, as the chapter tells it, with so many attempts at most. It returns what each of them was judged by, too.
func signOf(x *api.Tables, p api.Lattice, secret, message, random string, most int) (string, []trial) {
	head, polys, _ := mlkey.Secret(p, secret)
	mu := shakeOf(x, head[64:]+message, 64)
	seed := shakeOf(x, head[32:64]+random+mu, 64)
	matrix := sample.Matrix(*x, p, head[:32])
	var trials []trial
	for n := range most {
		sig, found := attemptOf(x, p, matrix, polys, mu, seed, n)
		trials = append(trials, found)
		if sig != "" {
			return sig, trials
		}
	}
	return "", trials
}

// secretOf returns the secret key of a seed without a pattern.
func secretOf(x api.Tables, p api.Lattice, n int) string {
	_, secret, _ := mlkey.Pair(x, p, noiseBytes(n, 32))
	return secret
}

// made returns a secret key of any polynomials.
func made(t *testing.T, p api.Lattice, n int, a, b, low []api.Poly) string {
	t.Helper()
	secret, e := mlkey.SecretBytes(p, noiseBytes(n, 128), a, b, low)
	if e != api.OK {
		t.Fatalf("SecretBytes: error %d", e)
	}
	return secret
}

// sameBytes reports a difference between strings, the second of which comes without an error.
func sameBytes(t *testing.T, what, got string, e api.Errno, want string) {
	t.Helper()
	if e != api.OK || got != want {
		t.Errorf("%s: %d bytes from %x on and error %d, want %d bytes from %x on", what, len(got), got[:min(40, len(got))], e, len(want), want[:min(40, len(want))])
	}
}

// refused reports a string that should not have been returned.
func refused(t *testing.T, what, got string, e, want api.Errno) {
	t.Helper()
	if got != "" || e != want {
		t.Errorf("%s: %d bytes and error %d, want error %d", what, len(got), e, want)
	}
}

// asTheChapter compares Inner with signOf, and returns what the attempts were judged by.
func asTheChapter(t *testing.T, x api.Tables, p api.Lattice, secret, message, random string) []trial {
	t.Helper()
	want, trials := signOf(&x, p, secret, message, random, 814)
	got, e := Inner(x, p, secret, message, random)
	if want == "" {
		refused(t, fmt.Sprint("Inner with ", p), got, e, api.ErrTries)
	} else {
		sameBytes(t, fmt.Sprint("Inner with ", p), got, e, want)
	}
	return trials
}

// P13.1

func TestMessageOfTheExample(t *testing.T) {
	got, e := Message("c", "ab")
	sameBytes(t, "Message", got, e, "\x00\x01cab")
}

func TestMessage(t *testing.T) {
	for length := 0; length <= 255; length++ {
		context := noiseBytes(length, length)
		for _, count := range []int{0, 1, 2, 255, 256, 300, 59999, 60000} {
			s := strings.Repeat("\x00\xffs", 20000)[:count]
			got, e := Message(context, s)
			sameBytes(t, fmt.Sprint("Message of ", length, " and ", count, " bytes"), got, e, string([]byte{0, byte(length)})+context+s)
		}
	}
}

func TestMessageTellsTheContextFromTheRest(t *testing.T) {
	a, _ := Message("ab", "c")
	b, _ := Message("a", "bc")
	c, _ := Message("", "abc")
	if a != "\x00\x02abc" || b != "\x00\x01abc" || c != "\x00\x00abc" {
		t.Errorf("Message is %q, %q, %q", a, b, c)
	}
}

func TestMessageOfTooManyBytes(t *testing.T) {
	for _, one := range [][2]int{{256, 0}, {256, 2}, {257, 60000}, {511, 1}, {512, 1}, {65536, 1}, {0, 60001}, {255, 60001}, {1, 65536}, {256, 60001}, {100000, 100000}} {
		got, e := Message(strings.Repeat("c", one[0]), strings.Repeat("s", one[1]))
		refused(t, fmt.Sprint("Message of ", one[0], " and ", one[1], " bytes"), got, e, api.ErrLong)
	}
}

// P13.2

func TestInner(t *testing.T) {
	x := tables.Make()
	for n, p := range sets() {
		secret := secretOf(x, p, n)
		for k, message := range []string{"", "m", noiseBytes(n, 1000)} {
			for _, random := range []string{zeros, noiseBytes(100+10*n+k, 32)} {
				asTheChapter(t, x, p, secret, message, random)
			}
		}
	}
}

func TestInnerOfLongMessages(t *testing.T) {
	x := tables.Make()
	p := set(4, func(*api.Lattice) {})
	secret := secretOf(x, p, 1)
	// mu is the hash of 64 bytes more than the message has: these lengths lie about the ends of the sponge's blocks, and beyond MaxMessage.
	for _, count := range []int{70, 71, 72, 73, 207, 208, 209, 60000, 60257, 60258, 200000} {
		asTheChapter(t, x, p, secret, noiseBytes(count, count), noiseBytes(1, 32))
	}
}

func TestInnerOfAnySecret(t *testing.T) {
	x := tables.Make()
	for n, p := range sets() {
		a, b := mixed(n, p.L, -p.Eta, p.Eta), mixed(n+50, p.K, -p.Eta, p.Eta)
		for k, low := range [][]api.Poly{full(p.K, 0), mixed(n, p.K, -500, 500), mixed(n, p.K, -4095, 4096)} {
			asTheChapter(t, x, p, made(t, p, k, a, b, low), "message", noiseBytes(n, 32))
		}
		asTheChapter(t, x, p, made(t, p, n, full(p.L, 0), full(p.K, 0), full(p.K, 0)), "message", zeros)
	}
	p := set(4, func(*api.Lattice) {})
	for _, x := range [][3]int{{2, 2, 4096}, {-2, -2, -4095}, {2, -2, 1}, {-1, 1, -1}} {
		asTheChapter(t, tables.Make(), p, made(t, p, 1, full(1, x[0]), full(1, x[1]), full(1, x[2])), "message", zeros)
	}
}

func TestInnerWithOtherTables(t *testing.T) {
	small := api.Lattice{K: 1, L: 2, Eta: 4, Tau: 7, Gamma1: 524288, Gamma2: 261888, Omega: 100, Lambda: 192}
	for n, x := range otherTables() {
		for _, p := range []api.Lattice{set(4, func(*api.Lattice) {}), small} {
			asTheChapter(t, x, p, secretOf(x, p, n), "message", noiseBytes(n, 32))
		}
	}
}

// published are seeds, messages of Inner, and SHA-256 of their signatures, from the tests that NIST publishes for the rejections of ML-DSA (draft-celi-acvp-ml-dsa, tables 1 and 2), as the tests of Go's own ML-DSA quote them. Each way of failing occurs, and up to 100 attempts.
func published() [][][3]string {
	return [][][3]string{
		1: {
			{"5c624fcc1862452452d0c665840d8237f43108e5499edcdc108fbc49d596e4b7", "951fdf5473a4cba6d9e5b5db7e79fb8173921ba5b13e9271401b8f907b8b7d5b", "dcc71a421bc6ffafb7df0c7f6d018a19ada154d1e2ee360ed533cecd5dc980ad"},
			{"836eabedb4d2cd9be6a4d957cf5ee6bf489304136864c55c2c5f01da5047d18b", "199a0ab735e9004163dd02d319a61cfe81638e3bf47bb1e90e90d6e3ea545247", "a2608bc27e60541d27b6a14f460d54a48c0298dcc3f45999f29047a3135c4941"},
			{"ca5a01e1ea6552cb5c9803462b94c2f1dc9d13bb17a6ace510d157056a2c6114", "8c8caca88fff52b9330510537b3701b3993f3726136a650f48f8604551550832", "b4b142209137397dad504caed01d390adaf49973d8d2414fc3457fb7af775189"},
			{"9c005f1550b4f31855c6b92f978736733f37791cb39dd182d7ba5732bdc2483e", "b744343f30f7fee088998ba574e799f1bf3939c06c29bf9ac10f3588a57e21e2", "5b80a60baa480b9d0c7d2c05b50928c4bf6808dda693642058a3eb77eaa768fc"},
			{"4fab5485b009399e8ae6fc3d3eefbfe8e09796e4477aabd5eb1cc908fa734de3", "7cab0fdcf4bea5f039137478aa45c9c48ef96d906fc49f6e2f138111bf1b4a4e", "6cc38d73d639682abc556dc6dcf436de24033091f34004f410fabc6887f77ab0"},
			{"090d97c1f4166eb32ca67c5fb564acbe0735db4af4b8db3a7c2ce7402357ca44", "e3838364b37f47edfca2b577b20b80c3cb51b9f56e0e4cdb7df002c874039252", "cd91150c610ff02de1dd7049c309efe800ce5c1bc2e5a32d752ab62c5bf5e16f"},
			{"cfc73d07a883543a804f770070861825143a62f2f97d05fce00fd8b25d29a43f", "0960c13e9ba467a938450120cc96ff6f04b7e557c99a838619a48f9a38738ab8", "b6296fff0c1f23de4906d58144b00a2db13ad25e49b4b8573a62efeecb544dd7"},
		},
		2: {
			{"464756a985e5df03739d95dd309c1ed9c5b04254cc294e7e7eb9b9365ee15117", "491101bba044de6e44a63796c33cda051bb05a60725b87af4ba9db940c03ac09", "8e08ea0c8db941685b9905a73b0b57bad3500b1f73490480b24375b41230cc04"},
			{"235a48db4ca7916b884f424a8586efd517e87c64aecec0fce9a3cc212ba1522e", "f8ce85cb2ec474ffbf5a3ffae029ce6f4526b8d597655067f97f438b81071e9b", "ae9531a01738615b6d33c77b3ff618a86e101fdc4c8504681f0edfa64511ad63"},
			{"e13131b705a760305feffebfe99082e2691a444bbefcc3edf67d909886200207", "cd365512c7e61bbaa130800b37f3bb46aaf1beef3742ea8a9010a6dd4576ed0b", "3c55e604deca7b89a99305d7a391c35f66a17c1923f467675ec951c0948d21c9"},
			{"0a4793e040a4bc0d0f37643d12c1ea1f10648724609936c76e0ec83e37209e92", "6d9c7a795e48d80a892cbf4d4558429787277e3806eb5d0bce1640eebbbf9aec", "3b141110b9f56540b2d49aacde6399974a4eac40621e367e68d4504f294db21b"},
			{"f865b889e5022d54babc81ca67e7eb39f1ac42f92cf5295c3da5c9667db1b924", "047afaadbe020ed2d766da85317dede80be550545f0b21e3f555a990f8004258", "56308a3578360c41356ba9c97d3240e01767fa76bbba9fd0cc6cfa9add088db9"},
			{"26b605c78ac762fa1634c6f91dd117c4fbff7f3a7e7781f0cc83b6281f04ad7f", "c9b07e7ddc0274468f312f5c692a54ac73d1e34d8638e20a2cd3c788f27d4355", "12a4637e3a833a5a2a46f6a991399e544b62a230b7aa82f7366840ff6a88de61"},
			{"9191cf381bee17475c011986efb6afb1efa6997442fd33427353f1da1aa39fc0", "e616e36e81aa1ec39262109421ae0ddda5e3b5a8f4a252bca27ae882538df618", "3d758ace312433d780403b3d4273171fb93d008b395352142c6dc5173e517310"},
			{"516912c7b90a3dbe009b7478dbcaf0f5c5c9ed9699a20d0ca56cc516e5a444cd", "9247ca75f9456226a0c783dabcc33ff5b4b489575aded543e74b29b45f9c8ef2", "e5ce267800edf33588451050f9b4a5bf97030d045132a7e3ed9210e74028d23b"},
			{"d4b841f882d50ab9e590066bafaba0f0d04d32641c0b978e54ccaa69a6e8d2c4", "175231657b0f3c7065947999467c342064f29bfaeb553e97561407d5560e3aeb", "8830ea254af2854bf67c2b907e2321c94fd6efb2fdaa77669fc3a5c4426c57c9"},
			{"5492eb8d811072c030a30cc66b23a173059eba0d4868ccb92fbe2510b4a5915f", "33d2753ed87d0003b44c1af5f72eb931f559c6b4931af7e249f65d3fa7613295", "84d4af50933d6e13d4332b86af0692a66f5030ab01c2eac4131a5eebf78ce9e5"},
		},
		3: {
			{"0d58219132746be077dfe821e9f8fd87857b28ab91d6a567e312a73e2636032c", "3aa49ef72d010aec19383ba1e83ec2dd3dcc207a96ffceb9ffa269e3e3d66400", "5049dc39045618b903c71595b3a3e07a731f95d37304623acc98bcef4258b4ca"},
			{"146c47ab9f88408eb76a813294d533b29d7e0fda75da5a4e7c69eb61efeebb78", "82c44f998a8d24f056084d0e80ecfd8434493385a284c69974923c270d397782", "cffc5988a351e14a3ee1282f042a143679c4503814296b27993949a7ff966f57"},
			{"049d9b0b646a2ac7f50b63ce5e4bfe44c9b87634f4ff6c14c513e388b8a1f808", "febc9f8ae159002be1a11d395959dd7fc20718135690cdaa2bcfb5801c02ab89", "ff4006089bdf7337e868f86ddf48f239d2a52ea1d0f686e0103bf19c3b571db1"},
			{"9823ddde446a8ea883dad3ac6477f79839fdc2d2def2416be0a8b71cfbc3f5c6", "f7592c97c1a96a2f4053588f5cdad4c50bf7c3752709854fa27779b445dd2ba2", "fd7757602b83b0a67a314cd5bcc880e7ae47acdf4d6af98269028efb486838f7"},
			{"ae213fe8589b414f53780d8b9b6837179967e13cb474c5ad365c043778d2bc90", "19c1913ba76ff04596bb7cc80fd825a5aedef5d5ad61cedb5203e6d7edb18877", "23fe743edd101970d499e7eb57a7aa245baf417e851b260c55dd525a445f08da"},
			{"b5c07ecefe9e7c3b885fdef032bdf9f807b4011e2dfe6806c088d2081631c8eb", "d1d5c2d167d6e62906790a5fedf5a0a754cfaf47e6a11aeb93fb8c41934c31f8", "54f0a9cb26f98b394a35918eca6760ebd10753fc5cdba8be508873ad83538131"},
			{"e8fc3c9fad711dda2946334fbbd331468d6e9ab48eb86dcd03f300a17aebc5e5", "3b435f7a2ce431c7ab8eae0991c5dac610827c99d27803046fbc6c567d6b71f2", "e337495f08773f14fb26a3e229b9b26d086644c7fdc300267f9dcdd5d78db849"},
			{"151f80886d6ce8c3b428964fe02c40ca0c8effa100ee089e54d785344fccf719", "c628ce94d2aa99aa50cf15b147d4f9a9c62a3d4612152de0a502c377f472d614", "99b552b21432544248bff47ac8f24cb78dbb25c9683f3adcb75614bed58a0358"},
			{"48beffb4c97e59e474e1906f39888be5ae62f6a011c05ef6a6b8d1e54f2171b7", "d2756a8fb4e47f796af704ed0fc8c6e573d42dfab443b329f00f8db2ff12c465", "e643914b8556d05360c65eb3e7a06be7c398b82d49973eefdc711e65b11eb5e8"},
			{"fe2da9dd93a077fcb6452ac88d0a5762eb896baaac6ce7d01cb1370ba8322390", "a86b29adf2300d2636e21d4a350cd18e55a254379c3659a7a95d8734cec1f005", "8d25818dd972fff5b9e9b4cc534a95100a1340c1c81d1486a68939d340e0a58b"},
		},
	}
}

func TestInnerOfPublishedSignatures(t *testing.T) {
	x := tables.Make()
	for kind, all := range published() {
		p, _ := round.Set(kind)
		for _, one := range all {
			seed, _ := hex.DecodeString(one[0])
			message, _ := hex.DecodeString(one[1])
			_, secret, _ := mlkey.Pair(x, p, string(seed))
			sig, e := Inner(x, p, secret, string(message), zeros)
			if got := sha256.Sum256([]byte(sig)); e != api.OK || hex.EncodeToString(got[:]) != one[2] {
				t.Errorf("Inner of %s has the hash %x and error %d, want %s", one[1], got, e, one[2])
			}
		}
	}
}

// keysOf returns Go's own key of a kind and a seed, and the secret key of the same seed.
func keysOf(t *testing.T, x api.Tables, kind, n int) (*mldsa.PrivateKey, api.Lattice, string) {
	t.Helper()
	params := []mldsa.Parameters{1: mldsa.MLDSA44(), 2: mldsa.MLDSA65(), 3: mldsa.MLDSA87()}[kind]
	key, err := mldsa.NewPrivateKey(params, []byte(noiseBytes(n, 32)))
	if err != nil {
		t.Fatal(err)
	}
	p, _ := round.Set(kind)
	return key, p, secretOf(x, p, n)
}

func TestInnerIsThatOfGosKeys(t *testing.T) {
	x := tables.Make()
	for kind := 1; kind <= 3; kind++ {
		for n := range 10 {
			key, p, secret := keysOf(t, x, kind, n)
			message := noiseBytes(n, 37*n)
			mu := sha3.SumSHAKE256([]byte(secret[64:128]+message), 64)
			want, err := key.SignDeterministic(mu, crypto.MLDSAMu)
			if err != nil {
				t.Fatal(err)
			}
			sig, e := Inner(x, p, secret, message, zeros)
			sameBytes(t, "Inner", sig, e, string(want))
		}
	}
}

func TestInnerOfRandomBytesIsAcceptedByGosKeys(t *testing.T) {
	x := tables.Make()
	for kind := 1; kind <= 3; kind++ {
		key, p, secret := keysOf(t, x, kind, kind)
		message, _ := Message("context", "message")
		seen := map[string]int{}
		for n := range 8 {
			// The last byte differs, and then all do.
			random := zeros[:31] + string([]byte{byte(n)})
			if n >= 4 {
				random = noiseBytes(n, 32)
			}
			sig, e := Inner(x, p, secret, message, random)
			if err := mldsa.Verify(key.PublicKey(), []byte("message"), []byte(sig), &mldsa.Options{Context: "context"}); err != nil {
				t.Errorf("a signature of kind %d with error %d: %v", kind, e, err)
			}
			seen[sig] = n
		}
		if len(seen) != 8 {
			t.Errorf("8 random strings yield %d signatures", len(seen))
		}
	}
}

// TestInnerAtTheBounds: messages of which an attempt lies exactly at a bound, and fails by that alone, or just does not fail. For the products with the low parts to be large enough, the polynomials of one secret key are made up.
func TestInnerAtTheBounds(t *testing.T) {
	x := tables.Make()
	small, few := set(4, func(*api.Lattice) {}), set(4, func(p *api.Lattice) { p.Omega = 10 })
	large := api.Lattice{K: 1, L: 1, Eta: 2, Tau: 64, Gamma1: 131072, Gamma2: 95232, Omega: 100, Lambda: 128}
	lossy := made(t, large, 1, mixed(1, 1, -2, 2), mixed(2, 1, -2, 2), mixed(3, 1, 3960, 3976))
	for _, one := range []struct {
		what    string
		p       api.Lattice
		secret  string
		message string
		attempt int
		value   func(found trial) int
		want    int
		fails   [4]bool
	}{
		{"z at its bound", small, secretOf(x, small, 1), "2268", 0, func(found trial) int { return found.z }, 131032, [4]bool{true}},
		{"z below its bound", small, secretOf(x, small, 1), "27", 0, func(found trial) int { return found.z }, 131031, [4]bool{}},
		{"a low part at its bound", small, secretOf(x, small, 1), "127", 0, func(found trial) int { return found.low }, 95192, [4]bool{1: true}},
		{"a low part below its bound", small, secretOf(x, small, 1), "265", 0, func(found trial) int { return found.low }, 95191, [4]bool{}},
		{"c times low at its bound", large, lossy, "4", 2, func(found trial) int { return found.lost }, 95232, [4]bool{2: true}},
		{"c times low below its bound", large, lossy, "8775", 1, func(found trial) int { return found.lost }, 95231, [4]bool{}},
		{"one hint too many", few, secretOf(x, few, 1), "0", 0, func(found trial) int { return found.ones }, 11, [4]bool{3: true}},
		{"as many hints as may be", few, secretOf(x, few, 1), "1", 2, func(found trial) int { return found.ones }, 10, [4]bool{}},
	} {
		trials := asTheChapter(t, x, one.p, one.secret, one.message, zeros)
		if len(trials) <= one.attempt {
			t.Errorf("%s: only %d attempts", one.what, len(trials))
			continue
		}
		found := trials[one.attempt]
		if got := fails(one.p, found); one.value(found) != one.want || got != one.fails {
			t.Errorf("%s: attempt %d is judged by %v, which fails by %v", one.what, one.attempt, found, got)
		}
	}
}

func TestInnerOfTheLastAttempts(t *testing.T) {
	x := tables.Make()
	p := set(4, func(p *api.Lattice) { p.Omega = 2 })
	secret := secretOf(x, p, 1)
	for _, one := range []struct {
		message string
		count   int
		found   api.Errno
	}{{"1396", 813, api.OK}, {"1455", 814, api.OK}, {"3106", 815, api.ErrTries}} {
		want, trials := signOf(&x, p, secret, one.message, zeros, 816)
		if len(trials) != one.count || want == "" {
			t.Errorf("%s takes %d attempts, want %d", one.message, len(trials), one.count)
		}
		got, e := Inner(x, p, secret, one.message, zeros)
		if one.found == api.OK {
			sameBytes(t, fmt.Sprint("Inner that takes ", one.count, " attempts"), got, e, want)
		} else {
			refused(t, fmt.Sprint("Inner that takes ", one.count, " attempts"), got, e, one.found)
		}
	}
}

func TestInnerOfTooManyAttempts(t *testing.T) {
	x := tables.Make()
	p := api.Lattice{K: 8, L: 8, Eta: 4, Tau: 64, Gamma1: 131072, Gamma2: 95232, Omega: 1, Lambda: 128}
	secret := secretOf(x, p, 1)
	got, e := Inner(x, p, secret, "message", zeros)
	refused(t, "Inner", got, e, api.ErrTries)
	got, e = Sign(x, p, secret, "message", "context", "")
	refused(t, "Sign", got, e, api.ErrTries)
}

func TestInnerOfWrongRandomBytes(t *testing.T) {
	x := tables.Make()
	for n, p := range append(sets(), wrongSets()...) {
		for _, count := range []int{0, 1, 16, 31, 33, 64, 1000} {
			got, e := Inner(x, p, secretOf(x, p, n), "message", noiseBytes(n, count))
			refused(t, fmt.Sprint("Inner with ", count, " random bytes"), got, e, api.ErrArg)
			got, e = Inner(x, p, "", "message", noiseBytes(n, count))
			refused(t, fmt.Sprint("Inner with ", count, " random bytes and no secret key"), got, e, api.ErrArg)
		}
	}
}

func TestInnerWithoutAValidSet(t *testing.T) {
	x := tables.Make()
	for _, p := range wrongSets() {
		for _, count := range []int{0, 128, 736, 2560} {
			got, e := Inner(x, p, strings.Repeat("\x00", count), "message", zeros)
			refused(t, fmt.Sprint("Inner with ", p), got, e, api.ErrArg)
		}
	}
}

func TestInnerOfWrongSecrets(t *testing.T) {
	x := tables.Make()
	for n, p := range sets() {
		secret := secretOf(x, p, n)
		public, _, _ := mlkey.Pair(x, p, noiseBytes(n, 32))
		// A byte of ones encodes no coefficient of a, nor of b, which end at the last one.
		size := 96
		if p.Eta == 4 {
			size = 128
		}
		wrong := []string{"", "\x00", public, secret[1:], secret[:len(secret)-1], secret[:128], secret + "\x00", secret + secret, secret[:128] + "\xff" + secret[129:]}
		last := 128 + (p.K+p.L)*size - 1
		wrong = append(wrong, secret[:last]+"\xff"+secret[last+1:])
		for _, s := range wrong {
			got, e := Inner(x, p, s, "message", zeros)
			refused(t, fmt.Sprint("Inner of a secret key of ", len(s), " bytes"), got, e, api.ErrForm)
		}
	}
}

// P13.3

func TestSign(t *testing.T) {
	x := tables.Make()
	for n, p := range sets() {
		secret := secretOf(x, p, n)
		for _, one := range [][2]string{{"", ""}, {"context", "message"}, {noiseBytes(n, 255), noiseBytes(n, 60000)}} {
			message := string([]byte{0, byte(len(one[0]))}) + one[0] + one[1]
			for _, random := range []string{"", zeros, noiseBytes(n, 32)} {
				got, e := Sign(x, p, secret, one[1], one[0], random)
				if random == "" {
					random = zeros
				}
				want, wantE := Inner(x, p, secret, message, random)
				if got != want || e != wantE || e != api.OK {
					t.Errorf("Sign with %v: %d bytes and error %d, want %d bytes and error %d", p, len(got), e, len(want), wantE)
				}
			}
		}
	}
}

func TestSignIsThatOfGosKeys(t *testing.T) {
	x := tables.Make()
	for kind := 1; kind <= 3; kind++ {
		for n, one := range [][2]int{{0, 0}, {0, 1}, {1, 0}, {5, 100}, {254, 1000}, {255, 60000}, {137, 8}, {0, 136}} {
			key, p, secret := keysOf(t, x, kind, n)
			context, s := noiseBytes(n, one[0]), noiseBytes(n+100, one[1])
			want, err := key.SignDeterministic([]byte(s), &mldsa.Options{Context: context})
			if err != nil {
				t.Fatal(err)
			}
			sig, e := Sign(x, p, secret, s, context, "")
			sameBytes(t, "Sign", sig, e, string(want))
		}
	}
}

// TestSignOfPublishedSignatures: the hash of 100 public keys, each with the signature of the empty message, as the tests of Go's own ML-DSA state it.
func TestSignOfPublishedSignatures(t *testing.T) {
	x := tables.Make()
	for kind, want := range map[int]string{
		1: "d51148e1f9f4fa1a723a6cf42e25f2a99eb5c1b378b3d2dbbd561b1203beeae4",
		2: "8358a1843220194417cadbc2651295cd8fc65125b5a5c1a239a16dc8b57ca199",
		3: "8c3ad714777622b8f21ce31bb35f71394f23bc0fcf3c78ace5d608990f3b061b",
	} {
		p, _ := round.Set(kind)
		seeds, all := sha3.NewSHAKE128(), sha3.NewSHAKE128()
		seed := make([]byte, 32)
		for range 100 {
			seeds.Read(seed)
			public, secret, _ := mlkey.Pair(x, p, string(seed))
			sig, _ := Sign(x, p, secret, "", "", "")
			all.Write([]byte(public + sig))
		}
		got := make([]byte, 32)
		all.Read(got)
		if hex.EncodeToString(got) != want {
			t.Errorf("the signatures of kind %d have the hash %x, want %s", kind, got, want)
		}
	}
}

func TestSignOfWrongArguments(t *testing.T) {
	x := tables.Make()
	long, longer := strings.Repeat("c", 256), strings.Repeat("s", 60001)
	wrong := func(what string, p api.Lattice, secret, s, context, random string, want api.Errno) {
		t.Helper()
		got, e := Sign(x, p, secret, s, context, random)
		refused(t, fmt.Sprint("Sign with ", what, " and ", p), got, e, want)
	}
	for n, p := range sets() {
		secret := secretOf(x, p, n)
		wrong("a long context", p, secret, "s", long, "", api.ErrLong)
		wrong("a long string", p, secret, longer, "c", "", api.ErrLong)
		wrong("a long context and another random", p, secret, "s", long, "r", api.ErrLong)
		wrong("a long string and no secret key", p, "", longer, "c", "", api.ErrLong)
		for _, count := range []int{1, 31, 33, 64} {
			wrong("another random", p, secret, "s", "c", noiseBytes(n, count), api.ErrArg)
			wrong("another random and no secret key", p, "", "s", "c", noiseBytes(n, count), api.ErrArg)
		}
		wrong("no secret key", p, "", "s", "c", "", api.ErrForm)
		wrong("a short secret key", p, secret[1:], "s", "c", zeros, api.ErrForm)
		wrong("a wrong coefficient", p, secret[:128]+"\xff"+secret[129:], "s", "c", "", api.ErrForm)
	}
	for _, p := range wrongSets() {
		wrong("a long context", p, "", "s", long, "", api.ErrLong)
		wrong("a long string", p, "", longer, "c", "", api.ErrLong)
		wrong("a wrong set", p, strings.Repeat("\x00", 2560), "s", "c", "", api.ErrArg)
		wrong("a wrong set", p, "", "s", "c", zeros, api.ErrArg)
		wrong("a wrong set", p, "", "s", "c", "r", api.ErrArg)
	}
}

// P13.4

func TestSignaturesHaveTheirSize(t *testing.T) {
	for _, x := range append(otherTables()[:2], tables.Make()) {
		for n, p := range sets() {
			_, _, want := mlkey.Sizes(p)
			sig, e := Sign(x, p, secretOf(x, p, n), "message", "context", noiseBytes(n, 32))
			if len(sig) != want || e != api.OK {
				t.Errorf("a signature with %v has %d bytes and error %d, want %d bytes", p, len(sig), e, want)
			}
		}
	}
	for kind, want := range map[int]int{1: 2420, 2: 3309, 3: 4627, 4: 669} {
		p, _ := round.Set(kind)
		if sig, e := Sign(tables.Make(), p, secretOf(tables.Make(), p, 1), "", "", ""); len(sig) != want || e != api.OK {
			t.Errorf("a signature of kind %d has %d bytes and error %d, want %d bytes", kind, len(sig), e, want)
		}
	}
}

func TestSigningIsDeterministic(t *testing.T) {
	x := tables.Make()
	for n, p := range sets() {
		secret := secretOf(x, p, n)
		for _, random := range []string{"", noiseBytes(n, 32)} {
			first, _ := Sign(x, p, secret, "message", "context", random)
			if other, _ := Sign(x, p, secret, "message", "other", random); other == first {
				t.Errorf("two contexts have one signature")
			}
			again, e := Sign(x, p, strings.Clone(secret), "message", "context", random)
			sameBytes(t, "Sign once more", again, e, first)
		}
	}
	if x != tables.Make() {
		t.Error("the tables have changed")
	}
}
