package xmss

import (
	"crypto/sha256"
	"encoding/hex"
	"math"
	"strconv"
	"strings"
	"testing"

	"sigil/adrs"
	"sigil/api"
	"sigil/tables"
	"sigil/wots"
)

// text returns n bytes without a short period; others for another which.
func text(which, n int) string {
	b := make([]byte, n)
	for i := range b {
		b[i] = byte(i*i*11 + i*101 + 37*which + 5 + i/239)
	}
	return string(b)
}

// run returns consecutive bytes.
func run(from, n int) string {
	b := make([]byte, n)
	for i := range b {
		b[i] = byte(from + i)
	}
	return string(b)
}

// unhex returns the bytes that hexadecimal digits stand for.
func unhex(t *testing.T, s string) string {
	t.Helper()
	b, err := hex.DecodeString(s)
	if err != nil {
		t.Fatal(err)
	}
	return string(b)
}

// sumOf returns SHA-256 of s, as hexadecimal digits.
func sumOf(s string) string {
	sum := sha256.Sum256([]byte(s))
	return hex.EncodeToString(sum[:])
}

// odd returns tables that are not those of chapter 2.
func odd() api.Tables {
	x := tables.Make()
	x.Small[20] ^= 9
	x.Large[3]++
	x.SmallStart[5] = 2
	x.LargeStart[0] = 1
	x.Rounds[20]--
	x.Turns[3] += 2
	return x
}

// set returns the parameters of a kind.
func set(t *testing.T, kind int) api.Forest {
	t.Helper()
	p, e := adrs.Set(kind)
	if e != api.OK {
		t.Fatalf("there is no set %d", kind)
	}
	return p
}

// forests returns the parameters of the fast and the small sets and, for both families, of each height and of each N; what is high has short nodes, so that its trees are made soon.
func forests(t *testing.T) []api.Forest {
	t.Helper()
	var all []api.Forest
	for _, kind := range []int{2, 4, 6, 8, 10, 12, 13, 14} {
		all = append(all, set(t, kind))
	}
	for family := 1; family <= 2; family++ {
		for height := 1; height <= 9; height++ {
			d := 1 + height*5%7
			all = append(all, api.Forest{Family: family, N: 2, H: height * d, D: d, A: 1, K: 1})
		}
		for n := 2; n <= 32; n++ {
			d := 1 + n%22
			all = append(all, api.Forest{Family: family, N: n, H: (1 + n%2) * d, D: d, A: 1 + n%14, K: 1 + n})
		}
	}
	return all
}

// wrong returns parameters that are not valid.
func wrong(t *testing.T) []api.Forest {
	t.Helper()
	all := []api.Forest{{}, {N: 16}, {Family: 1, N: 32}, {Family: 2, N: 4}, {Family: 1, N: 2, H: 10, D: 1, A: 1, K: 1}, {Family: 2, N: 2, H: 7, D: 2, A: 1, K: 1}}
	for kind := 1; kind <= 14; kind++ {
		for _, n := range []int{0, -1, 100, 1<<32 + 1, math.MaxInt, math.MinInt} {
			for field := range 6 {
				p := set(t, kind)
				*[]*int{&p.Family, &p.N, &p.H, &p.D, &p.A, &p.K}[field] = n
				all = append(all, p)
			}
		}
		for _, n := range []int{1, 33, 64} {
			p := set(t, kind)
			p.N = n
			all = append(all, p)
		}
	}
	return all
}

// addresses returns addresses of all sizes, whose Kind, Pair, High and Low are those of something else.
func addresses() []api.Adrs {
	return []api.Adrs{
		{},
		{Layer: 21, Tree: 1<<63 + 5, Pair: 511},
		{Layer: 2, Tree: 5, Kind: api.AdrTree, Pair: 1, High: 3, Low: 4},
		{Layer: 1, Tree: 1 << 40, Kind: api.AdrWotsPk, Pair: 1<<32 - 1, High: 1<<32 - 1, Low: 1<<32 - 1},
		{Layer: math.MaxUint64, Tree: math.MaxUint64, Kind: math.MinInt, Pair: math.MaxUint64, High: math.MaxUint64, Low: math.MaxUint64},
		{Layer: 7, Tree: 8, Kind: -1, Pair: 9, High: 10, Low: 11},
	}
}

// beyond returns ints that are not from 0 to below n.
func beyond(n int) []int {
	return []int{-1, -2, -n, n, n + 1, 2 * n, 1 << 16, 1 << 32, 1<<32 + 1, -1 << 32, 1 - 1<<32, api.MaxInt, math.MaxInt, math.MaxInt - 1, math.MinInt, math.MinInt + 1}
}

// some returns numbers from 0 to below n: all of them if there are few.
func some(n int) []int {
	if n > 8 {
		return []int{0, 1, n/3 + 1, n/2 - 1, n / 2, n - 1}
	}
	l := make([]int, n)
	for i := range l {
		l[i] = i
	}
	return l
}

// compare reports that a function returned another string than it should.
func compare(t *testing.T, what string, p api.Forest, got, want string) {
	t.Helper()
	if got != want {
		t.Errorf("%s with %v = %x; want %x", what, p, got, want)
	}
}

// vectors were computed by the hash functions of Python, from the bytes that TestVectors passes: the second of the two nodes below the root, the root, SHA-256 of a leaf's signature, and what is found from it for another string.
var vectors = []struct {
	kind, leaf                   int
	node, root, signature, other string
}{
	{2, 5,
		"20b4d7d2d28de047df0b85f0fb575b02",
		"07df0875d0398542282afe05f69c4e52",
		"2706f49e1ee08253267817c8b0c42469e8a5bc6c624b220c59f4dab6f7437756",
		"99ca41dd1983a6ead2ae7f91b5b5e62f",
	},
	{4, 5,
		"8fb6fc9fbca24982cd579005a212941e482a4eab738a7eeb",
		"f0fe2e7916b408e8f9f4721c4096e8616e9808c705d162d3",
		"cc10b588b56d27a22a846f5c28b7733c34a0a897ce664d8bfdde6ae3faa929a2",
		"fe22d32f02b98611acd07f9916af25b44f0d7218ef94b8d1",
	},
	{6, 10,
		"eee17733b182430b9f15909c6e1808a7bcfd8585105247bf5bea6f3a1544c68d",
		"9d1180c1ded75da28d1e6e7fedb1e05a09c650eb4d6dc36fcf7cd285414ba196",
		"9c68e1d2d5badb49c44a6783f6b4f5556511df7d3f868066d04bf0b65876041e",
		"1c00ba93d6f1a651f155050f568aaa76d78b058aa4e8eead1ac58d7572e18c4f",
	},
	{8, 5,
		"214bcb6254b4e65d189eb90d6bd26ead",
		"b1c743a326a3e6542ebae47c67228f49",
		"2013eb72a5d04eae0a83a49e8c4d26ad263478d86a87d1f76450576a8a39f007",
		"3e8eaf72c3dad12aad376eae16724420",
	},
	{10, 5,
		"af321511e1be108ff35fff8c049313198626cd2a2ce9ca23",
		"e1ea5230820c3bc26d6fedf6642751a73af2869e3f280fc5",
		"3f8d1761cceada8140392cecc94af5afeaae96deeab37ad9eaf94a6d13094eee",
		"c0d7f6b4b2b3152d60dcd915d1a2f36ee1c755ffb28f6975",
	},
	{12, 10,
		"9641b4e9c622a2501093fef16f5c8b7c399d7040d940d1c1847ceeebbc053def",
		"dce242b1916b80e93484a943b549054e04423f75e3bf23b009cce23d1cec4159",
		"45f2517cadb978fc757240744a0ff6b7175eeb921f35fcff56b0d83514301e6c",
		"e4ddfb5c0d12d83714cfa7f6235071abef2879317c092f95b98b0d0c72a165d4",
	},
	{13, 1,
		"67c51beb",
		"86f27f88",
		"d9364c397c9cffe417638453c566f075baabeaa6204e2250a430b091dc80748a",
		"234f03fb",
	},
	{14, 1,
		"de59d184",
		"f2ca697b",
		"7e25b46cb437fb829f31e895926544024399b7b1301822501646aa71e67dea26",
		"97c3ac10",
	},
}

// P18.1 to P18.3

func TestVectors(t *testing.T) {
	x := tables.Make()
	a := api.Adrs{Layer: 3, Tree: 0x0102030405060708}
	for _, c := range vectors {
		p := set(t, c.kind)
		key, public, s := run(32, p.N), run(0, p.N), run(97, p.N)
		sig := Sign(x, p, s, key, public, a, c.leaf)
		compare(t, "Node below the root", p, Node(x, p, key, public, a, [2]int{1, p.H/p.D - 1}), unhex(t, c.node))
		compare(t, "Node of the root", p, Node(x, p, key, public, a, [2]int{0, p.H / p.D}), unhex(t, c.root))
		compare(t, "SHA-256 of Sign", p, sumOf(sig), c.signature)
		compare(t, "Found", p, Found(x, p, c.leaf, sig, s, public, a), unhex(t, c.root))
		compare(t, "Found for another string", p, Found(x, p, c.leaf, sig, run(98, p.N), public, a), unhex(t, c.other))
	}
}

// published are signatures of trees within one signature of each set among NIST's samples for SLH-DSA (ACVP): those of the uppermost layer, whose root is that of the key, and for the fast sets those of layer 0, too, with SHA-256 of their bytes.
var published = []struct {
	kind         int
	layer, tree  uint64
	leaf         int
	key, public  string
	s, signature string
	root         string
}{
	{1, 6, 0x0, 331, "43fedb2b7b4cfb234dfd112bc8b6823f", "0272b1ba6ac29d89ca7c66e67415379d", "8646ada069f45b3cd70f48f6a33b454a", "4b79741b629f3605ed6589f186c7034ba34f7e58f5b3ac4b680de40ac533dc96", "931124be7946ab6b8083b03b5bdb6bb8"},
	{2, 0, 0x7cdcef4b8fdb03b0, 0, "d5213ba4bb6470f1b9eda88cbc94e627", "fa495fb834defea7cc96a81309479135", "33af163817cd6c2bea881ddf7d2b89ab", "c15337977c4f35a6781898ed691dd1e19a757e1eeed5dfce15c819baa4940f63", "af0daeccc5501e78851bf9a7896945b5"},
	{2, 21, 0x0, 7, "d5213ba4bb6470f1b9eda88cbc94e627", "fa495fb834defea7cc96a81309479135", "152fe8d970f64583d1c4eee5777c72c2", "175ae68303f9d1e187a656f327d4930115576f856658b7147d0439146149e8ca", "a67029e90668c5a58b96e60111491f3d"},
	{3, 6, 0x0, 111, "2d95492267dc570d21d907b2470a6cf2a65a9360ee6263ce", "d4dedf02552773332bd24285230a34cd85d2cfa082c5ef86", "2ef95dbc754e01664d5860e0dac84d6a292aa94d17c22c86", "aaedef535a2e2dd92a26c01c2a64086f6985b0cb084b53f7d5c2fafea369c60b", "b2444361c0eb9b1fcdcdeef75be0cca61aceee484d51edb2"},
	{4, 0, 0x735809f7e7d1d98c, 6, "ae9f30b9839b3df7aad689552918a6fa9e592de14221c050", "f5b923250b64f0ee9a532bc295f2732020e3834c8c60f9d0", "1b2cd39ca33a0b8fb8cef3e5b862a3e47f9d6301276fb2aa", "9fd597b3ecea82776558b6d466a3b0f6ddb4634584e281282564e2dcdcc52926", "6c9902997e3a1c338fa7a89699cb17cda81df86cdb35db68"},
	{4, 21, 0x0, 7, "ae9f30b9839b3df7aad689552918a6fa9e592de14221c050", "f5b923250b64f0ee9a532bc295f2732020e3834c8c60f9d0", "ce42ed86135f6816cb630ae4ebfe3062190c9984152f870b", "d8a00e3135a8d57b05e6768dc63f10db837d74f733f0a545cd4d0cf08fef338e", "16d85237782c2334ade40fd5e9be3f4fd3fb6d6fd6cf9e92"},
	{5, 7, 0x0, 64, "2f338f1aa9ee16eec94bc6a5c867d11dec90c0cce13b9145a7f77f201697eeed", "4ba52afa3729b3b70332e9cbc9627a961778da95332e319dfbe7c4e66a0e0c5e", "596f7e089748cb4c549a84fbe8501eb3981768d2bfe0d5cbe3bcec06346657fe", "6e9191136ac6ea7846b3c2c4500b53d72d642b13f9a57bf6c974cabc91a62392", "295196f5ab414af7c37e96fc8d4549694f3ed392e97f490d3cb165a9dce6ca6f"},
	{6, 0, 0xb95bc57d0305ce08, 15, "2bec12e7c24cf77a59cc8e426afbfeeafcd6eaf830df7c848f820cd80b1bd340", "bcc5d30e197a4d1feea12fddf2f94d76848bff48b1ec764a4a2054ea3334b38f", "8a6f9cd15f97793dcc620104b70780493fdafcc750cbce350714b767079d950c", "3f1500cbed09bdee121367e4f363fc54afa4b38ca7bc20777db4468b83108747", "77c22414a0de41c6c3b99784471b48c8096418dedfd238c30c6280ae2d9892eb"},
	{6, 16, 0x0, 11, "2bec12e7c24cf77a59cc8e426afbfeeafcd6eaf830df7c848f820cd80b1bd340", "bcc5d30e197a4d1feea12fddf2f94d76848bff48b1ec764a4a2054ea3334b38f", "2e4db48b9d418ca5aca4f9057634bd2f4d2cf1a69b0f2240e47333b9eff1e3b1", "53f9af5aa74cfb49619c5a8ed43ea436949dbe025900a157eb91a4a0441aca2e", "aae0238df2728273c9252743388868991924bc524befc781ffc1d30a1811dcb9"},
	{7, 6, 0x0, 317, "f303a41acfe52f13780519f38d18acea", "980f3cf034494b820db830e197699e06", "f7b492696c7971e7efddf057a7f5350e", "fc5396179cd446e040ecd9b98744c727d75f76f5620f79192109f560230704b0", "3a8b64e326430f77f70fa6ad710608ea"},
	{8, 0, 0x1e07bce604e23f09, 5, "e02dfb4e16f959336b9de70f9a8ba5fa", "9e84f23f025b879a95c868fee91b4112", "1b129a43ee3824b8b5d9753d9d6169c4", "e0a60b1817fc23d785c90980fe44cac212bc67838b4adc6f231040d8c6c7d8aa", "cfcfe80c1b1119664753177271916024"},
	{8, 21, 0x0, 1, "e02dfb4e16f959336b9de70f9a8ba5fa", "9e84f23f025b879a95c868fee91b4112", "5120b214802713f2e3f37d4617d7c20a", "a2a2cc5b02cef7f0a4b7042de09f62d0ee045f58369a1a9254d88f0d5b86fbf4", "5921d1f337cf1dfc574cdb12fc49daeb"},
	{9, 6, 0x0, 85, "228e8228aa3872dad0658ae9a89e29982b3954e561a4db41", "8e401c240c82ed178272d69b4831814cbee8115ee3e0d357", "ef041756594859ecd92970f3e3bf8cd88080f718c96d9b07", "5043d460f17f17103095c020d0d51c2d7acbf2c080ca4dd53bf2ba710e47cf92", "860f77961348330e3b1a3fa83e4074f747571628b3506aa6"},
	{10, 0, 0x6a9ea33fdd0b512c, 2, "d0a183c8150c7b768be8a2b0930bdefefe8ecaf2ce092712", "39936f92da2d64854c78a35a02e139868e42241e5af701db", "e0dd58d98f96fb86b661d9f8bc6b96d30fa5da0dcbd5ed08", "f941701c692482754fb0be9db93d81a8026d79d64def96049adb52faa1a542c1", "6d67ed6ef40049c75743837ef8e42c8cf0db34d465170ad4"},
	{10, 21, 0x0, 6, "d0a183c8150c7b768be8a2b0930bdefefe8ecaf2ce092712", "39936f92da2d64854c78a35a02e139868e42241e5af701db", "5873fb03eecbbe175e36b4073d26252baca95f018bcb1693", "4d8b58d24968d8f2e82de96110a6dd6dc4c3b4cbc55a9b22d9030651f3e47f60", "d746893e9888c1975e61a3b8b8b5e4bab5c7044710f0040c"},
	{11, 7, 0x0, 164, "d8f2ecc10cb2e0517dde105a21831248c50121b672bb5f0dab096a96714b467f", "0c1eba43a1e7aba442b90f3aa67ccf09217e8b960518ada1e556b206b5b6e36c", "f56e1c4e047a1c673bb961e9a1ae68455b5bf2fe6fca1385e2b310ad681c99ea", "c95fe102ea8f5e4eeafe225eef7b2789f51ab0fd07f852e21f622d7db9195b77", "4fc1720ff6d741a6ccaa53b1fe1fcc62f00159c20dac21e95428bb8fa30af6e3"},
	{12, 0, 0x585bdd7d675a3a7b, 0, "d282f116d355f83081c318c2ee43028ce0c9714ad65b04a393cd5b20870a5b1f", "94b25fbb5fc91ef935c5614871efdbd63165507db05f8b7b7bf7694bbff58881", "8a1f98df28a291e164415921db4eb144f2fcd663ba6274eef464145552d29859", "2d44f52b8fd3fa2761baf7473a19cd101c5d70c21dfc81dea2c80166d2857fda", "faf5692e22800992145992ac7f58d20c43d01ef992a8bb95c6e2f0ccadd6a8ca"},
	{12, 16, 0x0, 5, "d282f116d355f83081c318c2ee43028ce0c9714ad65b04a393cd5b20870a5b1f", "94b25fbb5fc91ef935c5614871efdbd63165507db05f8b7b7bf7694bbff58881", "07be5a1e04b94696745ea27a4bb30b1c8278dd29cc37467d9f0cd811d2041643", "c9d1df433f8472af43a438b1ed0414c38c4b348448e5ae62b8acc3adce0f5d3a", "4eda88d89f03cdbd48039d2f31cabf94cdb61b5a163b00fee873a5db71cf816d"},
}

func TestPublishedSignatures(t *testing.T) {
	x := tables.Make()
	for _, c := range published {
		t.Run(strconv.Itoa(c.kind)+" "+strconv.FormatUint(c.layer, 10), func(t *testing.T) {
			t.Parallel()
			p := set(t, c.kind)
			key, public, s := unhex(t, c.key), unhex(t, c.public), unhex(t, c.s)
			a := api.Adrs{Layer: c.layer, Tree: c.tree}
			sig := Sign(x, p, s, key, public, a, c.leaf)
			compare(t, "SHA-256 of a published signature", p, sumOf(sig), c.signature)
			compare(t, "Found from a published signature", p, Found(x, p, c.leaf, sig, s, public, a), unhex(t, c.root))
			compare(t, "the root of a published key", p, Node(x, p, key, public, a, [2]int{0, p.H / p.D}), unhex(t, c.root))
		})
	}
}

// P18.1

func TestNodeOfAllPlaces(t *testing.T) {
	t.Parallel()
	x := tables.Make()
	for i, p := range forests(t) {
		a := addresses()[i%len(addresses())]
		key, public := text(i, p.N), text(i+1, p.N)
		for z, row := range rows(x, p, key, public, a) {
			for _, n := range some(len(row)) {
				compare(t, "Node at "+strconv.Itoa(n)+", height "+strconv.Itoa(z), p, Node(x, p, key, public, a, [2]int{n, z}), row[n])
			}
		}
	}
}

func TestNodeOfNoPlace(t *testing.T) {
	x := tables.Make()
	for _, p := range forests(t) {
		height := p.H / p.D
		for z := range height + 1 {
			for _, n := range beyond(1 << (height - z)) {
				compare(t, "Node at "+strconv.Itoa(n)+", height "+strconv.Itoa(z), p, Node(x, p, "k", "u", api.Adrs{}, [2]int{n, z}), "")
			}
		}
		for _, z := range append(beyond(height+1), 9+1, -62, -63, -64, -65, 62, 63, 64, 65) {
			for _, n := range append(beyond(1), 0) {
				compare(t, "Node at "+strconv.Itoa(n)+", height "+strconv.Itoa(z), p, Node(x, p, "k", "u", api.Adrs{}, [2]int{n, z}), "")
			}
		}
	}
}

func TestNodeOfALeafIsThatOfItsOneTimeKey(t *testing.T) {
	x := tables.Make()
	for _, kind := range []int{1, 3, 5, 7, 9, 11} {
		p := set(t, kind)
		for _, n := range []int{0, 1, 2, 1<<(p.H/p.D) - 1} {
			a := api.Adrs{Layer: 1, Tree: 2}
			compare(t, "Node", p, Node(x, p, "k", "u", a, [2]int{n, 0}), wots.Public(x, p, "k", "u", api.Adrs{Layer: 1, Tree: 2, Kind: api.AdrWots, Pair: uint64(n)}))
		}
	}
}

func TestNodeOfAllAddressesAndLengths(t *testing.T) {
	t.Parallel()
	x := tables.Make()
	for _, kind := range []int{2, 6, 8, 10, 13, 14} {
		p := set(t, kind)
		for i, a := range addresses() {
			n := []int{0, 1, p.N - 1, p.N, p.N + 1, 500}[i]
			key, public, other := text(1, p.N), text(2, p.N), text(3, n)
			compare(t, "Node with another key", p, Node(x, p, other, public, a, [2]int{0, 1}), rows(x, p, other, public, a)[1][0])
			compare(t, "Node with another public seed", p, Node(x, p, key, other, a, [2]int{0, 1}), rows(x, p, key, other, a)[1][0])
		}
	}
}

// P18.2

func TestSignOfEachLeaf(t *testing.T) {
	t.Parallel()
	x := tables.Make()
	for i, p := range forests(t) {
		a := addresses()[i%len(addresses())]
		key, public, s := text(i, p.N), text(i+1, p.N), text(i+2, p.N)
		all := rows(x, p, key, public, a)
		for _, n := range some(len(all[0])) {
			compare(t, "Sign by leaf "+strconv.Itoa(n), p, Sign(x, p, s, key, public, a, n), signature(x, p, s, key, public, a, n, all))
		}
	}
}

func TestSignOfAllAddressesAndLengths(t *testing.T) {
	t.Parallel()
	x := tables.Make()
	for _, kind := range []int{2, 6, 8, 10, 13, 14} {
		p := set(t, kind)
		for i, a := range addresses() {
			n := []int{0, 1, p.N - 1, p.N, p.N + 1, 500}[i]
			key, public, s, other := text(1, p.N), text(2, p.N), text(3, p.N), text(4, n)
			compare(t, "Sign of another string", p, Sign(x, p, other, key, public, a, 1), signature(x, p, other, key, public, a, 1, rows(x, p, key, public, a)))
			compare(t, "Sign with another key", p, Sign(x, p, s, other, public, a, 1), signature(x, p, s, other, public, a, 1, rows(x, p, other, public, a)))
			compare(t, "Sign with another public seed", p, Sign(x, p, s, key, other, a, 1), signature(x, p, s, key, other, a, 1, rows(x, p, key, other, a)))
		}
	}
}

func TestLengthsOfResults(t *testing.T) {
	t.Parallel()
	x := tables.Make()
	for _, p := range forests(t) {
		chains, sums, _ := adrs.Lengths(p)
		sig := Sign(x, p, "s", "k", "u", api.Adrs{}, 1)
		node := Node(x, p, "k", "u", api.Adrs{}, [2]int{0, 1})
		got := Found(x, p, 1, sig, "t", "u", api.Adrs{})
		if len(sig) != (chains+sums+p.H/p.D)*p.N || len(node) != p.N || len(got) != p.N {
			t.Errorf("%v: %d, %d and %d bytes", p, len(sig), len(node), len(got))
		}
	}
	if n := len(Sign(x, set(t, 13), "", "", "", api.Adrs{}, 0)); n != 10*4+4 {
		t.Errorf("a signature of set 13 has %d bytes; want 10 chains and a node of 4 bytes", n)
	}
}

func TestTheSmallSetsHaveTwoLeaves(t *testing.T) {
	x := tables.Make()
	for _, kind := range []int{13, 14} {
		p := set(t, kind)
		left, right := Node(x, p, "k", "u", api.Adrs{}, [2]int{0, 0}), Node(x, p, "k", "u", api.Adrs{}, [2]int{1, 0})
		for i, sibling := range []string{right, left} {
			sig := Sign(x, p, "s", "k", "u", api.Adrs{}, i)
			if !strings.HasSuffix(sig, sibling) || len(sibling) != 4 {
				t.Errorf("set %d: the signature by leaf %d is %x; want %x at its end", kind, i, sig, sibling)
			}
		}
		compare(t, "Sign by leaf 2", p, Sign(x, p, "s", "k", "u", api.Adrs{}, 2), "")
	}
}

// P18.3

func TestFoundOfEachLeaf(t *testing.T) {
	t.Parallel()
	x := tables.Make()
	for i, p := range forests(t) {
		a := addresses()[i%len(addresses())]
		public, s, sig := text(i, p.N), text(i+1, p.N), text(i+2, 76*p.N)
		for n := range 1 << (p.H / p.D) {
			compare(t, "Found for leaf "+strconv.Itoa(n), p, Found(x, p, n, sig, s, public, a), found(x, p, n, sig, s, public, a))
		}
	}
}

func TestFoundOfAllLengthsOfASignature(t *testing.T) {
	x := tables.Make()
	a := addresses()[2]
	for _, p := range []api.Forest{set(t, 13), set(t, 14), {Family: 1, N: 2, H: 9, D: 1, A: 1, K: 1}, {Family: 2, N: 3, H: 8, D: 4, A: 1, K: 1}} {
		whole := (len(wots.Digits(p, "")) + p.H/p.D) * p.N
		for n := range whole + p.N + 3 {
			for i := range 2 {
				compare(t, "Found", p, Found(x, p, i, text(1, n), "ab", "u", a), found(x, p, i, text(1, n), "ab", "u", a))
			}
		}
	}
	for _, kind := range []int{1, 2, 3, 4, 6, 7, 10, 12} {
		p := set(t, kind)
		once := len(wots.Digits(p, "")) * p.N
		whole := once + p.H/p.D*p.N
		for _, n := range []int{0, 1, p.N, once - p.N, once - 1, once, once + 1, once + p.N - 1, once + p.N, once + p.N + 1, whole - p.N, whole - 1, whole, whole + 1, whole + p.N, 2 * whole} {
			for _, i := range []int{2, 5} {
				compare(t, "Found", p, Found(x, p, i, text(1, n), text(2, p.N), "u", a), found(x, p, i, text(1, n), text(2, p.N), "u", a))
			}
		}
	}
}

func TestFoundIgnoresWhatFollowsASignature(t *testing.T) {
	x := tables.Make()
	for _, kind := range []int{2, 13} {
		p := set(t, kind)
		sig := Sign(x, p, text(1, p.N), "k", "u", api.Adrs{}, 1)
		compare(t, "Found", p, Found(x, p, 1, sig+"more", text(1, p.N), "u", api.Adrs{}), Node(x, p, "k", "u", api.Adrs{}, [2]int{0, p.H / p.D}))
	}
}

func TestFoundOfAllAddressesAndLengths(t *testing.T) {
	x := tables.Make()
	for _, kind := range []int{1, 4, 6, 9, 13, 14} {
		p := set(t, kind)
		for i, a := range addresses() {
			n := []int{0, 1, p.N - 1, p.N, p.N + 1, 500}[i]
			sig, other := text(1, 76*p.N), text(2, n)
			compare(t, "Found for another string", p, Found(x, p, 1, sig, other, "u", a), found(x, p, 1, sig, other, "u", a))
			compare(t, "Found with another public seed", p, Found(x, p, 1, sig, text(3, p.N), other, a), found(x, p, 1, sig, text(3, p.N), other, a))
		}
	}
}

// P18.2, P18.3

func TestNothingOfOtherLeaves(t *testing.T) {
	x := tables.Make()
	all := forests(t)
	for _, kind := range []int{1, 3, 5, 7, 9, 11} {
		all = append(all, set(t, kind))
	}
	for _, p := range all {
		for _, i := range beyond(1 << (p.H / p.D)) {
			compare(t, "Sign by leaf "+strconv.Itoa(i), p, Sign(x, p, "s", "k", "u", api.Adrs{}, i), "")
			compare(t, "Found for leaf "+strconv.Itoa(i), p, Found(x, p, i, text(1, 76*p.N), "s", "u", api.Adrs{}), "")
		}
	}
}

// P18.1 to P18.3

func TestNothingOfInvalidParameters(t *testing.T) {
	x := tables.Make()
	for _, p := range wrong(t) {
		for _, s := range []string{"", "s", text(1, 3000)} {
			for i, a := range addresses() {
				for _, z := range []int{0, 1, p.H, math.MaxInt, math.MinInt} {
					compare(t, "Node", p, Node(x, p, s, s, a, [2]int{i - 1, z}), "")
				}
				compare(t, "Sign", p, Sign(x, p, s, s, s, a, i-1), "")
				compare(t, "Found", p, Found(x, p, i-1, s, s, s, a), "")
			}
		}
	}
}

func TestLongStrings(t *testing.T) {
	x := tables.Make()
	long, a := text(1, api.MaxMessage+10000), addresses()[5]
	for _, kind := range []int{13, 14} {
		p := set(t, kind)
		all := rows(x, p, "k", "u", a)
		compare(t, "Sign of a long string", p, Sign(x, p, long, "k", "u", a, 1), signature(x, p, long, "k", "u", a, 1, all))
		compare(t, "Found from a long signature", p, Found(x, p, 1, long, "s", "u", a), found(x, p, 1, long, "s", "u", a))
		compare(t, "Node with a long key", p, Node(x, p, long, "u", a, [2]int{0, 1}), rows(x, p, long, "u", a)[1][0])
	}
}

func TestTheTablesThatArePassedAreUsed(t *testing.T) {
	for _, x := range []api.Tables{odd(), {}} {
		for i, kind := range []int{2, 4, 6, 8, 10, 12, 13, 14} {
			p := set(t, kind)
			a := addresses()[i%len(addresses())]
			key, public, s, sig := text(kind, p.N), text(kind+1, p.N), text(kind+2, p.N), text(kind+3, 76*p.N)
			all := rows(x, p, key, public, a)
			compare(t, "Node", p, Node(x, p, key, public, a, [2]int{0, p.H / p.D}), all[p.H/p.D][0])
			compare(t, "Sign", p, Sign(x, p, s, key, public, a, 1), signature(x, p, s, key, public, a, 1, all))
			compare(t, "Found", p, Found(x, p, 1, sig, s, public, a), found(x, p, 1, sig, s, public, a))
		}
	}
}

// P18.4

func TestFoundOfASignatureIsTheRoot(t *testing.T) {
	t.Parallel()
	x := tables.Make()
	for i, p := range forests(t) {
		key, public, s := text(i, p.N), text(i+1, p.N), text(i+2, i)
		a := addresses()[i%len(addresses())]
		root := Node(x, p, key, public, a, [2]int{0, p.H / p.D})
		for _, n := range some(1 << (p.H / p.D)) {
			compare(t, "Found for leaf "+strconv.Itoa(n), p, Found(x, p, n, Sign(x, p, s, key, public, a, n), s, public, a), root)
		}
	}
}

func TestFoundOfASignatureIsTheRootWithAnyTables(t *testing.T) {
	for _, x := range []api.Tables{odd(), {}} {
		for _, kind := range []int{2, 6, 8, 10, 13, 14} {
			p := set(t, kind)
			root := Node(x, p, "k", "u", api.Adrs{}, [2]int{0, p.H / p.D})
			for n := range 2 {
				compare(t, "Found for leaf "+strconv.Itoa(n), p, Found(x, p, n, Sign(x, p, "s", "k", "u", api.Adrs{}, n), "s", "u", api.Adrs{}), root)
			}
		}
	}
}

// flipped returns s with one bit changed.
func flipped(s string, bit int) string {
	b := []byte(s)
	b[bit/8] ^= 1 << (bit % 8)
	return string(b)
}

func TestFoundOfSomethingElseIsNotTheRoot(t *testing.T) {
	x := tables.Make()
	for _, kind := range []int{2, 10} {
		p := set(t, kind)
		key, public, s := text(1, p.N), text(2, p.N), text(3, p.N)
		a := api.Adrs{Layer: 1, Tree: 2}
		sig, want := Sign(x, p, s, key, public, a, 5), Node(x, p, key, public, a, [2]int{0, p.H / p.D})
		differs := func(what, got string) {
			t.Helper()
			if got == want {
				t.Errorf("set %d: %s leads to the root", kind, what)
			}
		}
		for i := range 1 << (p.H / p.D) {
			if i != 5 {
				differs("another leaf", Found(x, p, i, sig, s, public, a))
			}
		}
		for bit := 0; bit < 8*p.N; bit += 7 {
			differs("another string", Found(x, p, 5, sig, flipped(s, bit), public, a))
		}
		for bit := 0; bit < 8*len(sig); bit += 8*p.N + 1 {
			differs("another signature", Found(x, p, 5, flipped(sig, bit), s, public, a))
		}
		differs("another public seed", Found(x, p, 5, sig, s, flipped(public, 5), a))
		for _, b := range []api.Adrs{{Layer: 2, Tree: 2}, {Layer: 1, Tree: 3}} {
			differs("another address", Node(x, p, key, public, b, [2]int{0, p.H / p.D}))
			differs("another address", Found(x, p, 5, sig, s, public, b))
		}
		other := api.Adrs{Layer: 1, Tree: 2, Kind: 6, Pair: 3, High: 7, Low: 8}
		compare(t, "Node, with another Kind, Pair, High and Low", p, Node(x, p, key, public, other, [2]int{0, p.H / p.D}), want)
		compare(t, "Sign, with another Kind, Pair, High and Low", p, Sign(x, p, s, key, public, other, 5), sig)
		compare(t, "Found, with another Kind, Pair, High and Low", p, Found(x, p, 5, sig, s, public, other), want)
	}
}

// R4

func TestResultsAreAlwaysTheSame(t *testing.T) {
	x := tables.Make()
	for _, kind := range []int{2, 12, 13, 14} {
		p := set(t, kind)
		all := func() string {
			sig := Sign(x, p, "s", "k", "u", api.Adrs{}, 1)
			return strings.Join([]string{sig, Node(x, p, "k", "u", api.Adrs{}, [2]int{0, 1}), Found(x, p, 1, sig, "t", "u", api.Adrs{})}, "|")
		}
		if all() != all() {
			t.Errorf("set %d: another result of the same arguments", kind)
		}
	}
	if !tables.Right(x) {
		t.Error("the tables were changed")
	}
}
