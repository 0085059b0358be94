package wots

import (
	"crypto/sha256"
	"encoding/hex"
	"math"
	"slices"
	"strings"
	"testing"

	"sigil/adrs"
	"sigil/api"
	"sigil/tables"
)

// text returns n bytes without a short period; others for another which.
func text(which, n int) string {
	b := make([]byte, n)
	for i := range b {
		b[i] = byte(i*i*11 + i*101 + 37*which + 5 + i/239)
	}
	return string(b)
}

// run returns consecutive bytes.
func run(from, n int) string {
	b := make([]byte, n)
	for i := range b {
		b[i] = byte(from + i)
	}
	return string(b)
}

// unhex returns the bytes that hexadecimal digits stand for.
func unhex(t *testing.T, s string) string {
	t.Helper()
	b, err := hex.DecodeString(s)
	if err != nil {
		t.Fatal(err)
	}
	return string(b)
}

// sumOf returns SHA-256 of s, as hexadecimal digits.
func sumOf(s string) string {
	sum := sha256.Sum256([]byte(s))
	return hex.EncodeToString(sum[:])
}

// odd returns tables that are not those of chapter 2.
func odd() api.Tables {
	x := tables.Make()
	x.Small[20] ^= 9
	x.Large[3]++
	x.SmallStart[5] = 2
	x.LargeStart[0] = 1
	x.Rounds[20]--
	x.Turns[3] += 2
	return x
}

// set returns the parameters of a kind.
func set(t *testing.T, kind int) api.Forest {
	t.Helper()
	p, e := adrs.Set(kind)
	if e != api.OK {
		t.Fatalf("there is no set %d", kind)
	}
	return p
}

// forests returns the parameters of all kinds, and, for both families, of each N.
func forests(t *testing.T) []api.Forest {
	t.Helper()
	var all []api.Forest
	for kind := 1; kind <= 14; kind++ {
		all = append(all, set(t, kind))
	}
	for n := 2; n <= 32; n++ {
		for family := 1; family <= 2; family++ {
			all = append(all, api.Forest{Family: family, N: n, H: 6, D: 1 + n%3, A: 1 + n%14, K: 1 + n})
		}
	}
	return all
}

// wrong returns parameters that are not valid.
func wrong(t *testing.T) []api.Forest {
	t.Helper()
	all := []api.Forest{{}, {N: 16}, {Family: 1, N: 32}, {Family: 2, N: 4}}
	for kind := 1; kind <= 14; kind++ {
		for _, n := range []int{0, -1, 100, 1<<32 + 1, math.MaxInt, math.MinInt} {
			for field := range 6 {
				p := set(t, kind)
				*[]*int{&p.Family, &p.N, &p.H, &p.D, &p.A, &p.K}[field] = n
				all = append(all, p)
			}
		}
		for _, n := range []int{1, 33, 64} {
			p := set(t, kind)
			p.N = n
			all = append(all, p)
		}
	}
	return all
}

// addresses returns addresses of all sizes, whose Kind, High and Low are those of something else.
func addresses() []api.Adrs {
	return []api.Adrs{
		{},
		{Layer: 21, Tree: 1<<63 + 5, Pair: 511},
		{Layer: 2, Tree: 5, Kind: api.AdrTree, Pair: 1, High: 3, Low: 4},
		{Layer: 1, Tree: 1 << 40, Kind: api.AdrWotsPk, Pair: 1<<32 - 1, High: 1<<32 - 1, Low: 1<<32 - 1},
		{Layer: math.MaxUint64, Tree: math.MaxUint64, Kind: math.MinInt, Pair: math.MaxUint64, High: math.MaxUint64, Low: math.MaxUint64},
		{Layer: 7, Tree: 8, Kind: -1, Pair: 9, High: 10, Low: 11},
	}
}

// far returns ints that are no number of a step.
func far() []int {
	return []int{-1, -2, -16, 16, 17, 31, 256, 1 << 32, 1<<32 + 1, -1 << 32, -1<<32 + 1, api.MaxInt, math.MaxInt, math.MaxInt - 1, math.MinInt, math.MinInt + 1}
}

// compare reports that a function returned another string than it should.
func compare(t *testing.T, what string, p api.Forest, got, want string) {
	t.Helper()
	if got != want {
		t.Errorf("%s with %v = %x; want %x", what, p, got, want)
	}
}

// vectors were computed by the hash functions of Python, from the bytes that TestVectors passes: nine steps of a chain, the public key, SHA-256 of a signature, and what is found from it for another string.
var vectors = []struct {
	kind                            int
	chain, public, signature, other string
}{
	{1,
		"15bf5bd3ba573cf9113de28c06c3c158",
		"9ba1e1a892890abdfc9bc17ea77b1066",
		"1690ecaf4d1317de0cae42315a33a53b140c9eb3a7f59cc5b49e6380156345a1",
		"8b5797bf4af5b3d9127921a08fc1e228",
	},
	{3,
		"670d4cd861a850138d6b35fa7ed4424300567b5fbbd53fde",
		"e86b5786dcca3db0b927ad7ea4adcb393834ba47abf82809",
		"d33b57a30b9d2626d5f8a221dde0bb2d27cae19f4c0f7250382501d49289671f",
		"e73fe2044b4d01a348ea32bd805b3993561fdefba485241b",
	},
	{5,
		"e4eb04f4a17394855068f105c4306a67518181d7800b47cb26a7e749cd460582",
		"f6162e97c3b57a856ca5ddae74dadf9e9a8a63ee8f5ae46f58a54293c64f9036",
		"274d71eb27f798c6d9fc269ef1447c7e3450c1f447079d3cb44bbbb9b78d4039",
		"a3649a34906e9806276162006c4bfa03cb1642d3631eca97afbf9cd7ec66be24",
	},
	{7,
		"a98d65552b2d7de537ede912278ab009",
		"764816c774c11a6b5a9425b0a973f99e",
		"a11c658b11895be19b96ca20a313e77d38edc4cb629b01f9eaed2aa177cbe384",
		"3ddcb53c6ea6c564624ce09e965fab49",
	},
	{9,
		"172337f60f56d797f4a3e8ffb5af466368f02da7d9b3cabb",
		"cc21871396884ac27019fe7befec1b5b4076e46000ce3276",
		"f9c99afeb44b53055514d5bb8ad77c41e77c3e2888b675968a780c93b2dc730d",
		"d82fc1a7eab11ef1c608af4604dcc3508dad8135242adcd0",
	},
	{11,
		"a87018ae38e8357b516d9f7875138eba8f55ea6293cc1b325d8e8d956180c7a8",
		"981a6dc25a6fea789342b95ef1327bed00880c0766f86b3d8ffbec7ca74f5d21",
		"a8bb7470a8a03c127af1fa38ac76e7e502b8327fd1e8baadbd3831aa88c006f2",
		"1c2025cf347b48ae54cc9aaa1cf3e376fda68bf47b5c5f7934311d1440f417f7",
	},
	{13,
		"0e3ff904",
		"a975c0bc",
		"357e0c652979570227690224404dd73c253e034f58e81b8defb5d909ecdedcd8",
		"7c7c1009",
	},
	{14,
		"665349d8",
		"b6fd4350",
		"4eff2d6e05d26d2551df530cea44af88335530554e792f95bceacc69ab7f26d3",
		"af5b13c8",
	},
}

// P17.1 to P17.5

func TestVectors(t *testing.T) {
	x := tables.Make()
	a := api.Adrs{Layer: 3, Tree: 0x0102030405060708, Pair: 9}
	link := a
	link.High = 7
	for _, c := range vectors {
		p := set(t, c.kind)
		key, public, s := run(32, p.N), run(0, p.N), run(97, p.N)
		sig := Sign(x, p, s, key, public, a)
		compare(t, "Chain", p, Chain(x, p, run(64, p.N), 3, 9, public, link), unhex(t, c.chain))
		compare(t, "Public", p, Public(x, p, key, public, a), unhex(t, c.public))
		compare(t, "SHA-256 of Sign", p, sumOf(sig), c.signature)
		compare(t, "Found", p, Found(x, p, sig, s, public, a), unhex(t, c.public))
		compare(t, "Found for another string", p, Found(x, p, sig, run(98, p.N), public, a), unhex(t, c.other))
	}
}

// published are one-time signatures within the first signature of each set among NIST's samples for SLH-DSA (ACVP, of the internal interface): those of layer 0, with SHA-256 of their bytes.
var published = []struct {
	kind         int
	key, public  string
	tree, pair   uint64
	s, signature string
}{
	{1, "84f325295102615fed9901ccbcafd86b", "058a5ec8ca74fc8ae23bf11269a8276e", 0x2f7ecd43bc62f9, 328, "3a9d03b02ca55616472cb7d610337292", "2d7db97cb1ce131178527948fbf50b4015ca4fa4eff7734c6f4f8d993b2975d2"},
	{2, "33d89b2b5c2859578d36df3a3033d2da", "dd902f10e6a7abc068f20a7fe7aee9c8", 0x500adfe43312fd62, 5, "d64a4546c0c24a7fe790d3a797cd7f76", "17b7e35525c968a8bfbc04a7d90b910ecdd2e35f3e94f144462b3f6d3ce640bf"},
	{3, "0358accac6cbbde9d64fdb4b95a20e23bf4778bd2afc1936", "66c7e8c71eb1ecfb62e3f6c0d5dcf8c18abe43a06fbaec34", 0x1253a23d46b4f6, 226, "0a0a0039af8d832d5e96367e2fc6e48593298f6d9d577d56", "f197256558f56b1cdf57155933c7d6198801cf12019a7b23ceed5cc881dc9701"},
	{4, "58b11c99bdbe0bfd13a8b245ab4c16409f2abe2581144dc5", "8f34eb6c6b51747604fac11e5a76bc9ba80194298d2490c1", 0x634f02808e283e66, 5, "ec567928f79489aaa1e885e4e0d000e04ac4358187eef5a4", "dd92faba241b7b8dd02d16e6ca3d79c4ff1281d9fc3eef0de6ba9190e1ac3063"},
	{5, "cbd2507d8c1d58c8d874293c8a7e3dfe1bd6830d67554f74f4b7a82909334829", "29d4466a24fc11e8002c8000344f0bf3284e1d8378351f25539c0572e5be8a7c", 0xcdd4f1a9852975, 88, "9509564029890592bf988e913f664a9107a93dbf85fbdd24a9ce3487d104e16b", "adb756fa710c15851910b3dce6a102d9df60b00991b7fbd31d3a2c275a7d85c7"},
	{6, "31ae046b96b9a1ab2ccc5599221f3458bc21c9be4c2398bdc010e510898a93fe", "f56edf45d28690a069848ce474fc32bfb5a570601ab385e5358cd28ed333f1ea", 0x80554bcafc8a268d, 6, "cf4977c53bb301acbac0c8a405db27182796e0609f45dffa1f0f0b95da0e8dc0", "d758c8226e332c24abcbcc74d6a812667ac262843ffe7cd88214c6bd6149d696"},
	{7, "6e87dfde9e8b9d23eaccd4b62fece1f0", "0ebcf560909ee3ad90c088b0ac136ae1", 0xcfa7001a78c82, 46, "811a61cceb3e2e4dae98919fc9e598ce", "b783ef5bd61d68e3a5be86897ba72cbcc91c28d69d9baba7004b843e03aa34fa"},
	{8, "6a404530ea7fd978496fb4a03a82dcd1", "3e41f070aec01075cf1d045b3de39681", 0x4201ad1476f1ced, 0, "39d8856272fd8073e384451b4eb0905d", "7d56cb5d56260e72446ffa1669d34483397848560e8b55525efb005b42547693"},
	{9, "d4f154e559f50a138a97573a07947fc3b10cbfbfb6b760ad", "937f918796a0787bedd81576f4cce26f584c67dc8634b2df", 0x3722cf1604be59, 232, "7d2e3b8a9d860e456df5f43e3d9b61d37182e023a02da047", "28be6a3a41e67bc4a57c64b51f7420b66d0da55f714c13f97d8c1f93e40d742d"},
	{10, "35fddd8ee6e528fea5e6a9dba6218bfa7e2f07be3921d66d", "95254d2142f31c6bc2983803b989ecd98fc73f4dbeb85b7b", 0x2191e2fbbd5507f4, 7, "f768287a1fd7b0253b9c9f7737f7086ee8143be2626864c7", "59691f58bdc794ad857f75c4bcd2ca8dfa59986f663424a7cf3e7e64b579e059"},
	{11, "4ee2cc4308b165cfe73975b328957757ff3f7da12616df680554c3013c5d469f", "4299bba29488bcc2db52d28da3cfb31a1de8a2e9ec99ea2048f5a99700f2c8fd", 0x4db7d1b9efb55f, 77, "593732fcc0870e8929a96babe18dd6ca78e4c24ca1ee2b785d963a6347208c41", "de233caff95c3bfcd8b725431c80f83622e849f25dce65b7c2f6dc1fa9f48e8b"},
	{12, "2ddd7a5afd80cd6d025153de93bff8d072b76080897a0447611b104e88aa8f1b", "b439c023ec7fdb6ba49eb408d999758a5e4552e1b5c1f6b791ddfabd5d534d27", 0xe0fa8b2fe66d0b03, 7, "24d98c3c6ed44ba2513b76c29405455adff120d48182ae31c8d055382913f829", "02e2cafa483e949cab60cca6be347dae744ef8731f457d069de99e8220ea496a"},
}

func TestPublishedSignatures(t *testing.T) {
	x, f := tables.Make(), standard()
	for _, c := range published {
		p := set(t, c.kind)
		key, public, s := unhex(t, c.key), unhex(t, c.public), unhex(t, c.s)
		a := api.Adrs{Tree: c.tree, Pair: c.pair}
		sig := Sign(x, p, s, key, public, a)
		compare(t, "SHA-256 of a published signature", p, sumOf(sig), c.signature)
		compare(t, "Found from a published signature", p, Found(x, p, sig, s, public, a), f.public(p, key, public, a))
	}
}

// P17.1

func TestChainOfAllNumbers(t *testing.T) {
	x, f := tables.Make(), standard()
	for _, kind := range []int{1, 5, 9, 13, 14} {
		p := set(t, kind)
		a := api.Adrs{Layer: 1, Tree: 2, Pair: 3, High: 4, Low: 5}
		s, public := text(1, p.N), text(2, p.N)
		for from := -3; from <= 18; from++ {
			for steps := -3; steps <= 19; steps++ {
				if got, want := Chain(x, p, s, from, steps, public, a), f.chain(p, s, from, steps, public, a); got != want {
					t.Errorf("set %d: Chain from %d, %d steps = %x; want %x", kind, from, steps, got, want)
				}
			}
		}
	}
}

func TestChainOfFarNumbers(t *testing.T) {
	x, f := tables.Make(), standard()
	p := set(t, 13)
	a := api.Adrs{Pair: 3}
	for _, n := range far() {
		for m := range 17 {
			if got := Chain(x, p, "abcd", n, m, "u", a); got != "abcd" {
				t.Errorf("Chain from %d, %d steps = %x; want the string itself", n, m, got)
			}
			if got, want := Chain(x, p, "abcd", m, n, "u", a), f.chain(p, "abcd", m, n, "u", a); got != want {
				t.Errorf("Chain from %d, %d steps = %x; want %x", m, n, got, want)
			}
		}
		for _, steps := range far() {
			if got := Chain(x, p, "abcd", n, steps, "u", a); got != "abcd" {
				t.Errorf("Chain from %d, %d steps = %x; want the string itself", n, steps, got)
			}
		}
	}
}

func TestChainEndsAfterTheNumber15(t *testing.T) {
	x, f := tables.Make(), standard()
	p := set(t, 14)
	a := api.Adrs{Layer: 5, Low: 15}
	last := f.hash(p, "u", a, "abcd")
	if last == "abcd" {
		t.Fatal("the last step changes nothing")
	}
	for _, steps := range []int{1, 2, 16, math.MaxInt} {
		compare(t, "Chain from 15", p, Chain(x, p, "abcd", 15, steps, "u", a), last)
	}
	if Chain(x, p, "abcd", 0, 15, "u", a) == Chain(x, p, "abcd", 0, 16, "u", a) {
		t.Error("a chain of 16 steps has no step more than one of 15")
	}
	compare(t, "Chain of 17 steps", p, Chain(x, p, "abcd", 0, 17, "u", a), Chain(x, p, "abcd", 0, 16, "u", a))
}

func TestChainOfAllSetsAndStrings(t *testing.T) {
	x, f := tables.Make(), standard()
	for _, p := range forests(t) {
		for _, a := range addresses() {
			for _, n := range []int{0, 1, p.N - 1, p.N, p.N + 1, 300} {
				s := text(1, n)
				compare(t, "Chain", p, Chain(x, p, s, 12, 3, text(2, p.N), a), f.chain(p, s, 12, 3, text(2, p.N), a))
				compare(t, "Chain with another public seed", p, Chain(x, p, text(2, p.N), 1, 2, s, a), f.chain(p, text(2, p.N), 1, 2, s, a))
				compare(t, "Chain without a step", p, Chain(x, p, s, 4, 0, text(2, p.N), a), s)
			}
		}
	}
}

func TestChainOfALongString(t *testing.T) {
	x, f := tables.Make(), standard()
	s := text(1, api.MaxMessage+10000)
	for kind := 1; kind <= 14; kind++ {
		p := set(t, kind)
		compare(t, "Chain of a long string", p, Chain(x, p, s, 3, 2, "u", api.Adrs{}), f.chain(p, s, 3, 2, "u", api.Adrs{}))
		compare(t, "Chain from 16 of a long string", p, Chain(x, p, s, 16, 2, "u", api.Adrs{}), s)
	}
}

func TestChainOfInvalidParameters(t *testing.T) {
	x := tables.Make()
	for _, p := range wrong(t) {
		for _, s := range []string{"", "s", text(1, 100)} {
			for _, a := range addresses() {
				compare(t, "Chain from 16", p, Chain(x, p, s, 16, 2, "u", a), s)
				compare(t, "Chain from -1", p, Chain(x, p, s, -1, 2, "u", a), s)
				compare(t, "Chain of 0 steps", p, Chain(x, p, s, 3, 0, "u", a), s)
				compare(t, "Chain of -1 steps", p, Chain(x, p, s, 3, -1, "u", a), s)
				compare(t, "Chain", p, Chain(x, p, s, 3, 1, "u", a), "")
				compare(t, "Chain of all steps", p, Chain(x, p, s, 0, 16, "u", a), "")
			}
		}
	}
}

// P17.2

func TestDigitsAsWrittenOut(t *testing.T) {
	zeros, ones := strings.Repeat("\x00", 32), strings.Repeat("\xff", 32)
	cases := []struct {
		p    api.Forest
		s    string
		head []int // each of the digits of s is one of these, in turn
		sums []int
	}{
		{set(t, 13), zeros[:4], []int{0}, []int{7, 8}},
		{set(t, 14), ones[:4], []int{15}, []int{0, 0}},
		{set(t, 13), "\x12\x12\x12\x12", []int{1, 2}, []int{6, 12}},
		{set(t, 1), zeros[:16], []int{0}, []int{1, 14, 0}},
		{set(t, 2), ones[:16], []int{15}, []int{0, 0, 0}},
		{set(t, 7), "", []int{0}, []int{1, 14, 0}},
		{set(t, 8), ones, []int{15}, []int{0, 0, 0}},
		{set(t, 3), zeros[:24], []int{0}, []int{2, 13, 0}},
		{set(t, 5), zeros[:32], []int{0}, []int{3, 12, 0}},
		{set(t, 6), ones[:32], []int{15}, []int{0, 0, 0}},
		{set(t, 12), strings.Repeat("\x0f", 32), []int{0, 15}, []int{1, 14, 0}},
		{api.Forest{Family: 1, N: 2, H: 1, D: 1, A: 1, K: 1}, zeros[:2], []int{0}, []int{3, 12}},
		{api.Forest{Family: 2, N: 8, H: 1, D: 1, A: 1, K: 1}, zeros[:8], []int{0}, []int{15, 0}},
		{api.Forest{Family: 2, N: 9, H: 1, D: 1, A: 1, K: 1}, zeros[:9], []int{0}, []int{1, 0, 14}},
		{api.Forest{Family: 1, N: 9, H: 1, D: 1, A: 1, K: 1}, strings.Repeat("\xfe", 9), []int{15, 14}, []int{0, 0, 9}},
	}
	for _, c := range cases {
		var want []int
		for i := range 2 * c.p.N {
			want = append(want, c.head[i%len(c.head)])
		}
		want = append(want, c.sums...)
		if got := Digits(c.p, c.s); !slices.Equal(got, want) {
			t.Errorf("Digits of %x with %v = %v; want %v", c.s, c.p, got, want)
		}
	}
}

func TestDigitsOfAllSetsAndLengths(t *testing.T) {
	for _, p := range forests(t) {
		chains, sums, _ := adrs.Lengths(p)
		for n := range p.N + 4 {
			for which := range 9 {
				s := text(which, n)
				got := Digits(p, s)
				if !slices.Equal(got, digits(p, s)) || len(got) != chains+sums {
					t.Errorf("Digits of %x with %v = %v; want %v", s, p, got, digits(p, s))
				}
			}
		}
	}
}

func TestDigitsOfEachString(t *testing.T) {
	p := api.Forest{Family: api.FamSha2, N: 2, H: 1, D: 1, A: 1, K: 1}
	for n := range 1 << 16 {
		d := []int{n >> 12, n >> 8 & 15, n >> 4 & 15, n & 15}
		left := 60 - d[0] - d[1] - d[2] - d[3]
		d = append(d, left>>4, left&15)
		if got := Digits(p, string([]byte{byte(n >> 8), byte(n)})); !slices.Equal(got, d) {
			t.Fatalf("Digits of %04x = %v; want %v", n, got, d)
		}
	}
}

func TestDigitsOfEachSum(t *testing.T) {
	for _, kind := range []int{1, 3, 5, 7, 9, 11, 13, 14} {
		p := set(t, kind)
		for n := range 30*p.N + 1 {
			// n is how far the digits of s are from the greatest ones, together.
			b := make([]byte, p.N)
			rest := n
			for i := range b {
				high := min(rest, 15)
				low := min(rest-high, 15)
				rest -= high + low
				b[i] = byte(15-high)<<4 | byte(15-low)
			}
			got := Digits(p, string(b))
			sum := 0
			for _, d := range got[2*p.N:] {
				sum = 16*sum + d
			}
			if sum != n || !slices.Equal(got, digits(p, string(b))) {
				t.Fatalf("Digits of %x with %v = %v; want the sum %d", b, p, got, n)
			}
		}
	}
}

func TestDigitsOfInvalidParameters(t *testing.T) {
	for _, p := range wrong(t) {
		for _, s := range []string{"", "s", text(1, 100)} {
			if got := Digits(p, s); len(got) != 0 {
				t.Errorf("Digits with %v = %v; want none", p, got)
			}
		}
	}
}

func TestDigitsAreNew(t *testing.T) {
	p := set(t, 1)
	want := digits(p, text(1, 16))
	first, second := Digits(p, text(1, 16)), Digits(p, text(1, 16))
	first = first[:cap(first)]
	for i := range first {
		first[i] = -1
	}
	if !slices.Equal(second, want) || !slices.Equal(Digits(p, text(1, 16)), want) {
		t.Error("the digits of one result are those of another one")
	}
}

// P17.3, P17.4

func TestPublicAndSignOfAllSets(t *testing.T) {
	x, f := tables.Make(), standard()
	for i, p := range forests(t) {
		a := addresses()[i%len(addresses())]
		key, public, s := text(i, p.N), text(i+1, p.N), text(i+2, p.N)
		compare(t, "Public", p, Public(x, p, key, public, a), f.public(p, key, public, a))
		compare(t, "Sign", p, Sign(x, p, s, key, public, a), f.sign(p, s, key, public, a))
	}
}

func TestPublicAndSignOfAllAddressesAndLengths(t *testing.T) {
	x, f := tables.Make(), standard()
	for _, kind := range []int{1, 5, 9, 13, 14} {
		p := set(t, kind)
		for i, a := range addresses() {
			n := []int{0, 1, p.N - 1, p.N, p.N + 1, 500}[i]
			key, public, s, other := text(1, p.N), text(2, p.N), text(3, p.N), text(4, n)
			compare(t, "Public with another key", p, Public(x, p, other, public, a), f.public(p, other, public, a))
			compare(t, "Public with another public seed", p, Public(x, p, key, other, a), f.public(p, key, other, a))
			compare(t, "Sign of another string", p, Sign(x, p, other, key, public, a), f.sign(p, other, key, public, a))
			compare(t, "Sign with another key", p, Sign(x, p, s, other, public, a), f.sign(p, s, other, public, a))
			compare(t, "Sign with another public seed", p, Sign(x, p, s, key, other, a), f.sign(p, s, key, other, a))
		}
	}
}

func TestSignOfTheLeastAndTheGreatestDigits(t *testing.T) {
	x, f := tables.Make(), standard()
	for kind := 1; kind <= 14; kind++ {
		p := set(t, kind)
		for _, s := range []string{strings.Repeat("\x00", p.N), strings.Repeat("\xff", p.N), strings.Repeat("\xf0", p.N)} {
			compare(t, "Sign", p, Sign(x, p, s, "k", "u", api.Adrs{}), f.sign(p, s, "k", "u", api.Adrs{}))
		}
	}
}

func TestLengthsOfResults(t *testing.T) {
	x := tables.Make()
	for _, p := range forests(t) {
		chains, sums, _ := adrs.Lengths(p)
		sig := Sign(x, p, "s", "k", "u", api.Adrs{})
		public := Public(x, p, "k", "u", api.Adrs{})
		found := Found(x, p, sig, "t", "u", api.Adrs{})
		if len(sig) != (chains+sums)*p.N || len(public) != p.N || len(found) != p.N {
			t.Errorf("%v: %d, %d and %d bytes", p, len(sig), len(public), len(found))
		}
	}
	if n := len(Sign(x, set(t, 1), "", "", "", api.Adrs{})); n != 35*16 {
		t.Errorf("a signature of set 1 has %d bytes; want 35 times 16", n)
	}
}

// P17.5

func TestFoundOfAllSets(t *testing.T) {
	x, f := tables.Make(), standard()
	for i, p := range forests(t) {
		a := addresses()[i%len(addresses())]
		public, s, sig := text(i, p.N), text(i+1, p.N), text(i+2, 67*p.N)
		compare(t, "Found", p, Found(x, p, sig, s, public, a), f.found(p, sig, s, public, a))
	}
}

func TestFoundOfAllLengthsOfASignature(t *testing.T) {
	x, f := tables.Make(), standard()
	a := api.Adrs{Layer: 1, Tree: 2, Kind: 3, Pair: 4, High: 5, Low: 6}
	for _, kind := range []int{13, 14} {
		p := set(t, kind)
		for n := range 10*p.N + 3 {
			for _, s := range []string{"\x00\x00\x00\x00", "\xff\xff\xff\xff", "\x5a\xf0\x0f\x12"} {
				compare(t, "Found", p, Found(x, p, text(1, n), s, "u", a), f.found(p, text(1, n), s, "u", a))
			}
		}
	}
	for _, kind := range []int{1, 3, 6, 12} {
		p := set(t, kind)
		whole := len(digits(p, "")) * p.N
		for _, n := range []int{0, 1, p.N - 1, p.N, p.N + 1, whole / 2, whole - p.N, whole - 1, whole, whole + 1, whole + p.N, 3 * whole} {
			compare(t, "Found", p, Found(x, p, text(1, n), text(2, p.N), "u", a), f.found(p, text(1, n), text(2, p.N), "u", a))
		}
	}
}

func TestFoundIgnoresWhatFollowsASignature(t *testing.T) {
	x := tables.Make()
	p := set(t, 1)
	sig := Sign(x, p, text(1, 16), "k", "u", api.Adrs{})
	compare(t, "Found", p, Found(x, p, sig+"more", text(1, 16), "u", api.Adrs{}), Public(x, p, "k", "u", api.Adrs{}))
	compare(t, "Found", p, Found(x, p, sig, text(1, 16)+"more", "u", api.Adrs{}), Public(x, p, "k", "u", api.Adrs{}))
}

func TestFoundOfAllAddressesAndLengths(t *testing.T) {
	x, f := tables.Make(), standard()
	for _, kind := range []int{1, 5, 9, 13, 14} {
		p := set(t, kind)
		for i, a := range addresses() {
			n := []int{0, 1, p.N - 1, p.N, p.N + 1, 500}[i]
			sig, other := text(1, 67*p.N), text(2, n)
			compare(t, "Found for another string", p, Found(x, p, sig, other, "u", a), f.found(p, sig, other, "u", a))
			compare(t, "Found with another public seed", p, Found(x, p, sig, text(3, p.N), other, a), f.found(p, sig, text(3, p.N), other, a))
		}
	}
}

// P17.3 to P17.5

func TestNothingOfInvalidParameters(t *testing.T) {
	x := tables.Make()
	for _, p := range wrong(t) {
		for _, s := range []string{"", "s", text(1, 3000)} {
			for _, a := range addresses() {
				compare(t, "Public", p, Public(x, p, s, s, a), "")
				compare(t, "Sign", p, Sign(x, p, s, s, s, a), "")
				compare(t, "Found", p, Found(x, p, s, s, s, a), "")
			}
		}
	}
}

// P17.1, P17.3 to P17.5

func TestTheTablesThatArePassedAreUsed(t *testing.T) {
	for _, x := range []api.Tables{odd(), {}} {
		f := below(x)
		for kind := 1; kind <= 14; kind++ {
			p := set(t, kind)
			a := addresses()[kind%len(addresses())]
			key, public, s, sig := text(kind, p.N), text(kind+1, p.N), text(kind+2, p.N), text(kind+3, 67*p.N)
			compare(t, "Chain", p, Chain(x, p, s, 3, 4, public, a), f.chain(p, s, 3, 4, public, a))
			compare(t, "Public", p, Public(x, p, key, public, a), f.public(p, key, public, a))
			compare(t, "Sign", p, Sign(x, p, s, key, public, a), f.sign(p, s, key, public, a))
			compare(t, "Found", p, Found(x, p, sig, s, public, a), f.found(p, sig, s, public, a))
		}
	}
}

// P17.6

func TestFoundOfASignatureIsPublic(t *testing.T) {
	for _, x := range []api.Tables{tables.Make(), odd()} {
		for i, p := range forests(t) {
			key, public := text(i, p.N), text(i+1, p.N)
			a := addresses()[i%len(addresses())]
			want := Public(x, p, key, public, a)
			for _, s := range []string{"", text(i+2, p.N), strings.Repeat("\xff", p.N+1)} {
				compare(t, "Found", p, Found(x, p, Sign(x, p, s, key, public, a), s, public, a), want)
			}
		}
	}
}

// flipped returns s with one bit changed.
func flipped(s string, bit int) string {
	b := []byte(s)
	b[bit/8] ^= 1 << (bit % 8)
	return string(b)
}

func TestFoundOfSomethingElseIsNotPublic(t *testing.T) {
	x := tables.Make()
	for _, kind := range []int{2, 10} {
		p := set(t, kind)
		key, public, s := text(1, p.N), text(2, p.N), text(3, p.N)
		a := api.Adrs{Layer: 1, Tree: 2, Pair: 3}
		sig, want := Sign(x, p, s, key, public, a), Public(x, p, key, public, a)
		differs := func(what, got string) {
			t.Helper()
			if got == want {
				t.Errorf("set %d: %s leads to the same", kind, what)
			}
		}
		for bit := 0; bit < 8*p.N; bit += 3 {
			differs("another string", Found(x, p, sig, flipped(s, bit), public, a))
		}
		for bit := 0; bit < 8*len(sig); bit += 4*p.N + 1 {
			differs("another signature", Found(x, p, flipped(sig, bit), s, public, a))
		}
		differs("another key", Public(x, p, flipped(key, 5), public, a))
		differs("another public seed", Public(x, p, key, flipped(public, 5), a))
		for _, b := range []api.Adrs{{Layer: 2, Tree: 2, Pair: 3}, {Layer: 1, Tree: 3, Pair: 3}, {Layer: 1, Tree: 2, Pair: 4}} {
			differs("another address", Public(x, p, key, public, b))
			differs("another address", Found(x, p, sig, s, public, b))
		}
		same := api.Adrs{Layer: 1, Tree: 2, Kind: 6, Pair: 3, High: 7, Low: 8}
		compare(t, "Public, with another Kind, High and Low", p, Public(x, p, key, public, same), want)
		compare(t, "Sign, with another Kind, High and Low", p, Sign(x, p, s, key, public, same), sig)
		compare(t, "Found, with another Kind, High and Low", p, Found(x, p, sig, s, public, same), want)
	}
}

// P17.7

func TestChainsCompose(t *testing.T) {
	x := tables.Make()
	for _, kind := range []int{1, 13} {
		p := set(t, kind)
		s, public, a := text(1, p.N), text(2, p.N), addresses()[2]
		for from := range 16 {
			for some := range 17 - from {
				half := Chain(x, p, s, from, some, public, a)
				for further := range 18 {
					got, want := Chain(x, p, half, from+some, further, public, a), Chain(x, p, s, from, some+further, public, a)
					if got != want {
						t.Errorf("set %d: from %d, %d and %d steps = %x; want %x", kind, from, some, further, got, want)
					}
				}
			}
		}
	}
}

// R4

func TestResultsAreAlwaysTheSame(t *testing.T) {
	x := tables.Make()
	for kind := 1; kind <= 14; kind++ {
		p := set(t, kind)
		all := func() string {
			sig := Sign(x, p, "s", "k", "u", api.Adrs{})
			return strings.Join([]string{sig, Public(x, p, "k", "u", api.Adrs{}), Found(x, p, sig, "t", "u", api.Adrs{}), Chain(x, p, "s", 1, 2, "u", api.Adrs{})}, "|")
		}
		if all() != all() {
			t.Errorf("set %d: another result of the same arguments", kind)
		}
	}
	if !tables.Right(x) {
		t.Error("the tables were changed")
	}
}
