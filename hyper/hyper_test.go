package hyper

import (
	"crypto/sha256"
	"encoding/hex"
	"fmt"
	"math"
	"strings"
	"testing"

	"sigil/adrs"
	"sigil/api"
	"sigil/tables"
	"sigil/xmss"
)

// text returns n bytes without a short period; others for another which.
func text(which, n int) string {
	b := make([]byte, n)
	for i := range b {
		b[i] = byte(i*i*11 + i*101 + 37*which + 5 + i/239)
	}
	return string(b)
}

// run returns consecutive bytes.
func run(from, n int) string {
	b := make([]byte, n)
	for i := range b {
		b[i] = byte(from + i)
	}
	return string(b)
}

// unhex returns the bytes that hexadecimal digits stand for.
func unhex(t *testing.T, s string) string {
	t.Helper()
	b, err := hex.DecodeString(s)
	if err != nil {
		t.Fatal(err)
	}
	return string(b)
}

// sumOf returns SHA-256 of s, as hexadecimal digits.
func sumOf(s string) string {
	sum := sha256.Sum256([]byte(s))
	return hex.EncodeToString(sum[:])
}

// odd returns tables that are not those of chapter 2.
func odd() api.Tables {
	x := tables.Make()
	x.Small[20] ^= 9
	x.Large[3]++
	x.SmallStart[5] = 2
	x.LargeStart[0] = 1
	x.Rounds[20]--
	x.Turns[3] += 2
	return x
}

// set returns the parameters of a kind.
func set(t *testing.T, kind int) api.Forest {
	t.Helper()
	p, e := adrs.Set(kind)
	if e != api.OK {
		t.Fatalf("there is no set %d", kind)
	}
	return p
}

// forests returns parameters for both families, of each number of layers, of each height and of each N; what is high has short nodes, so that its trees are made soon.
func forests() []api.Forest {
	var all []api.Forest
	for family := 1; family <= 2; family++ {
		for d := 1; d <= 22; d++ {
			all = append(all, api.Forest{Family: family, N: 2 + d%3, H: d * (1 + d%3), D: d, A: 1, K: 1})
		}
		for height := 1; height <= 9; height++ {
			d := 1 + (height+family)%2
			all = append(all, api.Forest{Family: family, N: 2, H: height * d, D: d, A: 1, K: 1})
		}
		for n := 2; n <= 32; n++ {
			d := 1 + n%4
			all = append(all, api.Forest{Family: family, N: n, H: (1 + n%2) * d, D: d, A: 1 + n%14, K: 1 + n})
		}
	}
	return all
}

// lowForests returns parameters for both families, of few layers of low trees.
func lowForests() []api.Forest {
	var all []api.Forest
	for family := 1; family <= 2; family++ {
		for _, n := range []int{4, 16, 24, 32} {
			all = append(all, api.Forest{Family: family, N: n, H: 6, D: 3, A: 1, K: 1})
		}
	}
	return all
}

// wrong returns parameters that are not valid.
func wrong(t *testing.T) []api.Forest {
	t.Helper()
	all := []api.Forest{{}, {N: 16}, {Family: 1, N: 32}, {Family: 2, N: 4}, {Family: 1, N: 2, H: 10, D: 1, A: 1, K: 1}, {Family: 2, N: 2, H: 7, D: 2, A: 1, K: 1}}
	for kind := 1; kind <= 14; kind++ {
		for _, n := range []int{0, -1, 100, 1<<32 + 1, math.MaxInt, math.MinInt} {
			for field := range 6 {
				p := set(t, kind)
				*[]*int{&p.Family, &p.N, &p.H, &p.D, &p.A, &p.K}[field] = n
				all = append(all, p)
			}
		}
		for _, n := range []int{1, 33, 64} {
			p := set(t, kind)
			p.N = n
			all = append(all, p)
		}
	}
	return all
}

// within returns positions whose tree is one of layer 0: the first and the last one, and some between; their leaves are the first and the last one, and some that must be reduced.
func within(p api.Forest) [][2]uint64 {
	trees, leaves := uint64(1)<<(p.H-p.H/p.D), uint64(1)<<(p.H/p.D)
	// A shift by 64 leaves 0: there are as many trees as numbers.
	last := trees - 1
	return [][2]uint64{
		{0, 0},
		{last, leaves - 1},
		{last / 3, leaves + leaves/3},
		{0xb1e94a75c3d20f68 & last, math.MaxUint64 - leaves/2},
	}
}

// beyond returns positions whose tree is above all those of layer 0; none if every number is one of them.
func beyond(p api.Forest) [][2]uint64 {
	trees := uint64(1) << (p.H - p.H/p.D)
	if trees == 0 {
		return nil
	}
	return [][2]uint64{{trees, 0}, {2*trees - 1, 1}, {trees + trees/2, 2}, {math.MaxUint64, math.MaxUint64}, {1 << 63, 1 << 63}}
}

// everywhere returns positions of both kinds.
func everywhere(p api.Forest) [][2]uint64 {
	return append(within(p), beyond(p)...)
}

// compare reports that a function returned another string than it should.
func compare(t *testing.T, what string, p api.Forest, got, want string) {
	t.Helper()
	if got != want {
		t.Errorf("%s with %v = %x; want %x", what, p, got, want)
	}
}

// each runs a test of each of these parameters, some of them at a time.
func each(t *testing.T, all []api.Forest, test func(*testing.T, int, api.Forest)) {
	t.Helper()
	for i, p := range all {
		t.Run(fmt.Sprint(p), func(t *testing.T) {
			t.Parallel()
			test(t, i, p)
		})
	}
}

// sets returns the parameters of these kinds.
func sets(t *testing.T, kinds ...int) []api.Forest {
	t.Helper()
	var all []api.Forest
	for _, kind := range kinds {
		all = append(all, set(t, kind))
	}
	return all
}

// vectors were computed by the hash functions of Python, from the bytes that TestVectors passes: the root, SHA-256 of the signature, what is found from it, what is found from it for another string, and what is found from its first half and a byte more. The trees of the last three are not those of the layers.
var vectors = []struct {
	p                                   api.Forest
	where                               [2]uint64
	root, signature, found, other, half string
}{
	{api.Forest{Family: 2, N: 16, H: 66, D: 22, A: 6, K: 33}, [2]uint64{0x7edcba9876543210, 0x5},
		"2bc28f6117a1c17e2a98006cb1f6933b",
		"35747a2e42cc274912d26880bed63f37c5a4f92cc6d0a651433c2ff38dcb72ba",
		"2bc28f6117a1c17e2a98006cb1f6933b",
		"c8183fae1e6dc328a2bae854391ae3df",
		"501360401ae32d389ff8c1fe5c139879",
	},
	{api.Forest{Family: 2, N: 24, H: 66, D: 22, A: 8, K: 33}, [2]uint64{0x123456789abcdef, 0xe},
		"711805369a8557c354d0977c9bfa19e976642000801748c1",
		"16f8e82c56bdb5558459fc7cf51bafd03023f8f50d198c7f823692607906df95",
		"711805369a8557c354d0977c9bfa19e976642000801748c1",
		"ae7e4918423a637b1934c20ceef4c1fad3620d88ac33ad9d",
		"9c7f1f7ab9bbe47f9ab3dc99811edf883fafa2f3d64fec03",
	},
	{api.Forest{Family: 2, N: 32, H: 68, D: 17, A: 9, K: 35}, [2]uint64{0xfedcba9876543210, 0xb},
		"751deac8c399a4a640d8517a2133395d97f8a7c8920ab8ee3176fae49833d320",
		"4b80011a256e26978b2489b6edf6f82835d27c71a3f4c858a523b39b70584a34",
		"751deac8c399a4a640d8517a2133395d97f8a7c8920ab8ee3176fae49833d320",
		"49b96b44231e7cf1d38d96a93199abdf78ab3f8f72e2412e96ca5417d37a06c4",
		"38584c1668006a703e13d480e81520555b42afc6eb48a75feda940c83f510b14",
	},
	{api.Forest{Family: 1, N: 16, H: 66, D: 22, A: 6, K: 33}, [2]uint64{0x0, 0x0},
		"ac739748cbd94ef83aafebb3b89ad62d",
		"57c50416c884a910650bbb6b8f77b980007b2bf349e808d22f0c9cd4f1f5ce26",
		"ac739748cbd94ef83aafebb3b89ad62d",
		"29d9e908547c2c38f625ba1196bd7494",
		"24274c40c3684b4592a2748943c1cd1b",
	},
	{api.Forest{Family: 1, N: 24, H: 66, D: 22, A: 8, K: 33}, [2]uint64{0x7fffffffffffffff, 0x7},
		"fc1c0af16fed0a8ab160ebffab33b2b0087fd0dbb1cb9e42",
		"c5f6cdc54eaa29e1bab29111e8ac2739a4073f4f97534cb4d654f1fad4e5572f",
		"fc1c0af16fed0a8ab160ebffab33b2b0087fd0dbb1cb9e42",
		"675c8ead18b3a0e6306258eb1a43ab6f064e7c5e5fb83d24",
		"5589082da1f1f3cfc8b530b724601e1d5d9145c24f5ef1eb",
	},
	{api.Forest{Family: 1, N: 32, H: 68, D: 17, A: 9, K: 35}, [2]uint64{0xffffffffffffffff, 0xffffffffffffffff},
		"bca90fe73d5bcc20dbe342cb6c2289ad272c4da70351e0a71d35ebf671afc4fb",
		"d11153002bc47c4bdfd5951e3708e74844edefdb348dc33b7d4bffbc366da0f7",
		"bca90fe73d5bcc20dbe342cb6c2289ad272c4da70351e0a71d35ebf671afc4fb",
		"2432fb1f65f84bd29d1c5ef92afd4a88a81e9af6380aa66651da0282b1c5780f",
		"a17022d7a54dd03c9006af6fc2f9e979a839dfc8bbfff75cd58db793a203eb5c",
	},
	{api.Forest{Family: 1, N: 4, H: 1, D: 1, A: 2, K: 2}, [2]uint64{0x0, 0x1},
		"ebb70d0e",
		"deff89f81fd41e84d672560c1fafd418c1b78355645e62f5e9d86927fee207a5",
		"ebb70d0e",
		"f72b0135",
		"43d25b7d",
	},
	{api.Forest{Family: 2, N: 4, H: 1, D: 1, A: 2, K: 2}, [2]uint64{0x0, 0x2},
		"6605de24",
		"1d2f72fd2fd4879e6cc0599d419f893204d2d57e594cd816be9483a4e691ddfc",
		"6605de24",
		"e3d1146d",
		"4f72fca9",
	},
	{api.Forest{Family: 1, N: 5, H: 15, D: 5, A: 1, K: 1}, [2]uint64{0xabc, 0x3},
		"37b2d033dd",
		"81db14f3b02bb98be22198ce895bba87116071225fd248e6fc5948063ca78542",
		"37b2d033dd",
		"2374d6c0f4",
		"62945e5d74",
	},
	{api.Forest{Family: 2, N: 7, H: 12, D: 3, A: 1, K: 1}, [2]uint64{0x9d, 0x123456789abcdef9},
		"82c4b080f67332",
		"2ab63ee2846f83634dafe2f80553edcc77226fd8a057b72d2c567834de9797e0",
		"82c4b080f67332",
		"12c1d5007f4442",
		"539ad58944ea57",
	},
	{api.Forest{Family: 2, N: 17, H: 6, D: 3, A: 1, K: 1}, [2]uint64{0xb, 0xfffffffffffffffe},
		"c3b5fd2e3f0c69c1a2473ceda758d451ae",
		"656340a7679586afd5146381f7f6968d44eb9b2a1aaab8e42073d474ae2fb0ac",
		"c3b5fd2e3f0c69c1a2473ceda758d451ae",
		"a9649d1d1d8ef5c57a223a6e1819b1d061",
		"f0da7a7f762a7194c08e21959f2a71b0ef",
	},
	{api.Forest{Family: 1, N: 2, H: 9, D: 1, A: 1, K: 1}, [2]uint64{0x0, 0x190},
		"a1a8",
		"157528f37678bf1021c73bbb4434b48ed67754b2eeb31e272a580a8e46aded06",
		"a1a8",
		"988e",
		"d5e3",
	},
	{api.Forest{Family: 2, N: 2, H: 18, D: 2, A: 1, K: 1}, [2]uint64{0x155, 0x3ff},
		"5246",
		"7b8bd0946befb1e79f85672ac9308585636ce71c558a87c8fd0247f9a85513d1",
		"5246",
		"746a",
		"2dfb",
	},
	{api.Forest{Family: 1, N: 3, H: 6, D: 3, A: 1, K: 1}, [2]uint64{0x1b, 0x2},
		"7706c4",
		"b5a74482a887a81cdaba9256f030460a4679df95784d0e8372578c207547c538",
		"9c8b24",
		"8bb158",
		"9c63d2",
	},
	{api.Forest{Family: 2, N: 18, H: 4, D: 2, A: 1, K: 1}, [2]uint64{0xffffffffffffffff, 0xffffffffffffffff},
		"35ec09cda7703e9d821dfeb4031654e6b48a",
		"750e6ab151e61d048170061b66dde3d9fa73b612b9669b6f19520c6af1f7ac80",
		"33715fbef194229b3c4a895aa21cbfaa501c",
		"f8cbd3b96b0eadf79a564a6b045815a1b5dc",
		"3334cb3e7f0ddde6b87de589de38195e6e6d",
	},
	{api.Forest{Family: 1, N: 4, H: 1, D: 1, A: 2, K: 2}, [2]uint64{0x1, 0x0},
		"ebb70d0e",
		"e5bd0ba8cfdcec48298f17598850d098bfbb53ce2c205dc66ce4cc8bf78dcf63",
		"a7a7c8ae",
		"e2f63eed",
		"82a12fce",
	},
}

// P19.1 to P19.3

func TestVectors(t *testing.T) {
	t.Parallel()
	x := tables.Make()
	for i, c := range vectors {
		t.Run(fmt.Sprint(i), func(t *testing.T) {
			t.Parallel()
			p := c.p
			key, public, s := run(32, p.N), run(0, p.N), run(97, p.N)
			sig := Sign(x, p, s, key, public, c.where)
			compare(t, "Root", p, Root(x, p, key, public), unhex(t, c.root))
			compare(t, "SHA-256 of Sign", p, sumOf(sig), c.signature)
			compare(t, "Found", p, Found(x, p, sig, s, public, c.where), unhex(t, c.found))
			compare(t, "Found for another string", p, Found(x, p, sig, run(98, p.N), public, c.where), unhex(t, c.other))
			compare(t, "Found from a half", p, Found(x, p, sig[:len(sig)/2+1], s, public, c.where), unhex(t, c.half))
		})
	}
}

// published are the signatures of the hypertree within one signature of each set among NIST's samples for SLH-DSA (ACVP), as SHA-256 of their bytes, and the root that is in the key.
var published = []struct {
	kind        int
	where       [2]uint64
	key, public string
	s, root     string
	signature   string
}{
	{1, [2]uint64{0x297dc2bd49797a, 0x45}, "43fedb2b7b4cfb234dfd112bc8b6823f", "0272b1ba6ac29d89ca7c66e67415379d",
		"fe0df7e65ef9bcab2639fabc2c040d69", "931124be7946ab6b8083b03b5bdb6bb8",
		"8a3c130813978585b7caeb100443f8eaf1a169a74cc5288f45773ac6dd1d2fd6",
	},
	{2, [2]uint64{0x7cdcef4b8fdb03b0, 0x0}, "d5213ba4bb6470f1b9eda88cbc94e627", "fa495fb834defea7cc96a81309479135",
		"33af163817cd6c2bea881ddf7d2b89ab", "a67029e90668c5a58b96e60111491f3d",
		"7d6fa7e48f1ba66d11e4a70b7cbe674e7bdc24d482b1c9e0bb18308fc843e54d",
	},
	{3, [2]uint64{0xdff68caeb3c99, 0x3e}, "2d95492267dc570d21d907b2470a6cf2a65a9360ee6263ce", "d4dedf02552773332bd24285230a34cd85d2cfa082c5ef86",
		"d8ecc9e6a597401b6ad289f24c9de30d5d2a3958df57f031", "b2444361c0eb9b1fcdcdeef75be0cca61aceee484d51edb2",
		"0b0aa8d00de18c6fe1fd46b4bfdd1c5ac1729fec085ed1ed9f59f8086053cfd3",
	},
	{4, [2]uint64{0x735809f7e7d1d98c, 0x6}, "ae9f30b9839b3df7aad689552918a6fa9e592de14221c050", "f5b923250b64f0ee9a532bc295f2732020e3834c8c60f9d0",
		"1b2cd39ca33a0b8fb8cef3e5b862a3e47f9d6301276fb2aa", "16d85237782c2334ade40fd5e9be3f4fd3fb6d6fd6cf9e92",
		"dbc573873cd3a0666524403834cd3b1904a47993f52a8a5a6fa62ae82a21e949",
	},
	{5, [2]uint64{0x4073cb9dbdd7d5, 0xd6}, "2f338f1aa9ee16eec94bc6a5c867d11dec90c0cce13b9145a7f77f201697eeed", "4ba52afa3729b3b70332e9cbc9627a961778da95332e319dfbe7c4e66a0e0c5e",
		"9d4cb3e5bcb5a97c8896ddc23a581fd24ec54c6e252984db978028a716bd38dd", "295196f5ab414af7c37e96fc8d4549694f3ed392e97f490d3cb165a9dce6ca6f",
		"0229a629b0f1c3e6bb1bcf962e494778fdfb35420cdb3e61f352c71898ed1e99",
	},
	{6, [2]uint64{0xb95bc57d0305ce08, 0xf}, "2bec12e7c24cf77a59cc8e426afbfeeafcd6eaf830df7c848f820cd80b1bd340", "bcc5d30e197a4d1feea12fddf2f94d76848bff48b1ec764a4a2054ea3334b38f",
		"8a6f9cd15f97793dcc620104b70780493fdafcc750cbce350714b767079d950c", "aae0238df2728273c9252743388868991924bc524befc781ffc1d30a1811dcb9",
		"36725a1df96738bdbd6b1a18092db19ae4a2ffee74d946d6816f79a99bdb579e",
	},
	{7, [2]uint64{0x27ba77e03b35f2, 0x1f0}, "f303a41acfe52f13780519f38d18acea", "980f3cf034494b820db830e197699e06",
		"12e0c7871354dca57f4e2487f911d4c4", "3a8b64e326430f77f70fa6ad710608ea",
		"426ad366c52826bfdbbf80d5bd82afa107d6534e09dde37623bb553018244f60",
	},
	{8, [2]uint64{0x1e07bce604e23f09, 0x5}, "e02dfb4e16f959336b9de70f9a8ba5fa", "9e84f23f025b879a95c868fee91b4112",
		"1b129a43ee3824b8b5d9753d9d6169c4", "5921d1f337cf1dfc574cdb12fc49daeb",
		"fa5b0b9a942678eec06f8647fd7b8d0296cf4bc21a5b1b76d9c33165931853f0",
	},
	{9, [2]uint64{0xabc8b63b8f821, 0x88}, "228e8228aa3872dad0658ae9a89e29982b3954e561a4db41", "8e401c240c82ed178272d69b4831814cbee8115ee3e0d357",
		"587baca8d91a0b55f09f5a39f39d57605f44e963251edf84", "860f77961348330e3b1a3fa83e4074f747571628b3506aa6",
		"85684409d0eee29fa751410468fad1b77f454483a0086a03cf0b25c9b5462b37",
	},
	{10, [2]uint64{0x6a9ea33fdd0b512c, 0x2}, "d0a183c8150c7b768be8a2b0930bdefefe8ecaf2ce092712", "39936f92da2d64854c78a35a02e139868e42241e5af701db",
		"e0dd58d98f96fb86b661d9f8bc6b96d30fa5da0dcbd5ed08", "d746893e9888c1975e61a3b8b8b5e4bab5c7044710f0040c",
		"a2539ee0b56c18cc58354796f301564c7e54dd7f2a56fb0168694d2a852bf09c",
	},
	{11, [2]uint64{0xa4c39138ca840d, 0xc9}, "d8f2ecc10cb2e0517dde105a21831248c50121b672bb5f0dab096a96714b467f", "0c1eba43a1e7aba442b90f3aa67ccf09217e8b960518ada1e556b206b5b6e36c",
		"debf1bd3dac1e311fcd53632d3c5e6fa1129ec1fd1e158abf9aa9f850403244b", "4fc1720ff6d741a6ccaa53b1fe1fcc62f00159c20dac21e95428bb8fa30af6e3",
		"2cde82e1b25a899199aa1204d49299c1cd0ea42597e0104c64d03ecadba148ca",
	},
	{12, [2]uint64{0x585bdd7d675a3a7b, 0x0}, "d282f116d355f83081c318c2ee43028ce0c9714ad65b04a393cd5b20870a5b1f", "94b25fbb5fc91ef935c5614871efdbd63165507db05f8b7b7bf7694bbff58881",
		"8a1f98df28a291e164415921db4eb144f2fcd663ba6274eef464145552d29859", "4eda88d89f03cdbd48039d2f31cabf94cdb61b5a163b00fee873a5db71cf816d",
		"6b0c8075147efef741a7a76a6b9181e7dfd4994a4020a22ecb7abcfd6562c1ea",
	},
}

func TestPublishedSignatures(t *testing.T) {
	t.Parallel()
	x := tables.Make()
	for _, c := range published {
		t.Run(fmt.Sprint(c.kind), func(t *testing.T) {
			t.Parallel()
			p := set(t, c.kind)
			key, public, s := unhex(t, c.key), unhex(t, c.public), unhex(t, c.s)
			sig := Sign(x, p, s, key, public, c.where)
			compare(t, "SHA-256 of a published signature", p, sumOf(sig), c.signature)
			compare(t, "Found from a published signature", p, Found(x, p, sig, s, public, c.where), unhex(t, c.root))
			compare(t, "Root of a published key", p, Root(x, p, key, public), unhex(t, c.root))
		})
	}
}

// P19.1

func TestRootIsThatOfTheUppermostTree(t *testing.T) {
	t.Parallel()
	x := tables.Make()
	each(t, append(forests(), sets(t, 2, 6, 8, 12, 13, 14)...), func(t *testing.T, i int, p api.Forest) {
		for _, n := range []int{p.N, 0, p.N + 1} {
			key, public := text(i, n), text(i+1, n)
			want := xmss.Node(x, p, key, public, api.Adrs{Layer: uint64(p.D) - 1}, [2]int{0, p.H / p.D})
			compare(t, "Root", p, Root(x, p, key, public), want)
			if len(want) != p.N {
				t.Errorf("the root has %d bytes", len(want))
			}
		}
	})
}

// P19.2

func TestSignOfEachPosition(t *testing.T) {
	t.Parallel()
	x := tables.Make()
	each(t, forests(), func(t *testing.T, i int, p api.Forest) {
		key, public, s := text(i, p.N), text(i+1, p.N), text(i+2, p.N)
		for _, where := range everywhere(p) {
			want := strings.Join(signature(x, p, s, key, public, where), "")
			compare(t, fmt.Sprint("Sign at ", where), p, Sign(x, p, s, key, public, where), want)
		}
	})
}

func TestSignOfAllLengths(t *testing.T) {
	t.Parallel()
	x := tables.Make()
	each(t, lowForests(), func(t *testing.T, _ int, p api.Forest) {
		where := [2]uint64{1 << 50, 1}
		for _, n := range []int{0, 1, p.N - 1, p.N + 1, 500} {
			key, public, s, other := text(1, p.N), text(2, p.N), text(3, p.N), text(4, n)
			compare(t, "Sign of another string", p, Sign(x, p, other, key, public, where), strings.Join(signature(x, p, other, key, public, where), ""))
			compare(t, "Sign with another key", p, Sign(x, p, s, other, public, where), strings.Join(signature(x, p, s, other, public, where), ""))
			compare(t, "Sign with another public seed", p, Sign(x, p, s, key, other, where), strings.Join(signature(x, p, s, key, other, where), ""))
		}
	})
}

func TestNoMoreOfTheLeafCountsThanATreeHas(t *testing.T) {
	t.Parallel()
	x := tables.Make()
	each(t, append(forests()[:9], set(t, 2)), func(t *testing.T, i int, p api.Forest) {
		leaves := uint64(1) << (p.H / p.D)
		tree := within(p)[2][0]
		sig := Sign(x, p, "s", "k", "u", [2]uint64{tree, 1})
		for _, leaf := range []uint64{1 + leaves, 1 + 6*leaves, 1 + 1<<32, 1 + 1<<63, math.MaxUint64 - leaves + 2} {
			compare(t, fmt.Sprint("Sign by leaf ", leaf), p, Sign(x, p, "s", "k", "u", [2]uint64{tree, leaf}), sig)
			compare(t, fmt.Sprint("Found for leaf ", leaf), p, Found(x, p, sig, "s", "u", [2]uint64{tree, leaf}), Found(x, p, sig, "s", "u", [2]uint64{tree, 1}))
		}
	})
}

func TestEachLayerSignsTheRootBelow(t *testing.T) {
	t.Parallel()
	x := tables.Make()
	p := api.Forest{Family: 1, N: 5, H: 8, D: 4, A: 1, K: 1}
	sig := Sign(x, p, "abcde", "k", "u", [2]uint64{0b_01_11_10, 0b_11})
	// The leaves on the way are 3, 2, 3 and 1, of the trees 30, 7, 1 and 0.
	s, want := "abcde", ""
	for layer, leaf := range []int{3, 2, 3, 1} {
		a := api.Adrs{Layer: uint64(layer), Tree: []uint64{30, 7, 1, 0}[layer]}
		want += xmss.Sign(x, p, s, "k", "u", a, leaf)
		s = xmss.Node(x, p, "k", "u", a, [2]int{0, 2})
	}
	compare(t, "Sign", p, sig, want)
	compare(t, "Found", p, Found(x, p, sig, "abcde", "u", [2]uint64{30, 3}), s)
	compare(t, "Root", p, Root(x, p, "k", "u"), s)
}

func TestLengthsOfSignatures(t *testing.T) {
	t.Parallel()
	x := tables.Make()
	// Those of FIPS 205, without the random bytes and the few-time signature.
	for i, size := range []int{7 * 44 * 16, 22 * 38 * 16, 7 * 60 * 24, 22 * 54 * 24, 8 * 75 * 32, 17 * 71 * 32} {
		for _, kind := range []int{i + 1, i + 7} {
			if n := set(t, kind).D * oneLayer(set(t, kind)); n != size {
				t.Errorf("a signature of set %d has %d bytes; want %d", kind, n, size)
			}
		}
	}
	for _, p := range append(forests(), sets(t, 2, 10, 12)...) {
		if p.H/p.D > 4 {
			continue
		}
		if n := len(Sign(x, p, "s", "k", "u", [2]uint64{5, 1})); n != p.D*oneLayer(p) {
			t.Errorf("a signature with %v has %d bytes; want %d", p, n, p.D*oneLayer(p))
		}
	}
	for _, kind := range []int{13, 14} {
		if n := len(Sign(x, set(t, kind), "", "", "", [2]uint64{})); n != 44 {
			t.Errorf("a signature of set %d has %d bytes; want 44", kind, n)
		}
	}
}

func TestOneLayerIsOneTree(t *testing.T) {
	t.Parallel()
	x := tables.Make()
	for _, p := range append(sets(t, 13, 14), api.Forest{Family: 2, N: 3, H: 4, D: 1, A: 1, K: 1}) {
		for _, tree := range []uint64{0, 1, 1 << 40, math.MaxUint64} {
			for leaf := range 1 << p.H {
				where, a := [2]uint64{tree, uint64(leaf)}, api.Adrs{Tree: tree}
				sig := Sign(x, p, "s", "k", "u", where)
				compare(t, "Sign", p, sig, xmss.Sign(x, p, "s", "k", "u", a, leaf))
				compare(t, "Found", p, Found(x, p, sig, "s", "u", where), xmss.Node(x, p, "k", "u", a, [2]int{0, p.H}))
			}
		}
	}
}

// P19.3

func TestFoundOfEachPosition(t *testing.T) {
	t.Parallel()
	x := tables.Make()
	each(t, append(forests(), sets(t, 1, 2, 3, 4, 5, 6, 7, 8, 9, 10, 11, 12, 13, 14)...), func(t *testing.T, i int, p api.Forest) {
		public, s, sig := text(i, p.N), text(i+1, p.N), text(i+2, p.D*oneLayer(p))
		for _, where := range everywhere(p) {
			compare(t, fmt.Sprint("Found at ", where), p, Found(x, p, sig, s, public, where), found(x, p, sig, s, public, where))
		}
	})
}

func TestFoundOfAllLengthsOfASignature(t *testing.T) {
	t.Parallel()
	x := tables.Make()
	few := append(sets(t, 13, 14), api.Forest{Family: 1, N: 2, H: 9, D: 3, A: 1, K: 1}, api.Forest{Family: 2, N: 3, H: 8, D: 4, A: 1, K: 1})
	each(t, few, func(t *testing.T, _ int, p api.Forest) {
		for n := range p.D*oneLayer(p) + p.N + 3 {
			for _, where := range everywhere(p)[:2] {
				compare(t, fmt.Sprint("Found from bytes: ", n), p, Found(x, p, text(1, n), "ab", "u", where), found(x, p, text(1, n), "ab", "u", where))
			}
		}
	})
	each(t, sets(t, 1, 2, 4, 6, 7, 10, 12), func(t *testing.T, _ int, p api.Forest) {
		one, where := oneLayer(p), within(p)[3]
		for _, from := range []int{0, one, 2 * one, (p.D - 1) * one, p.D * one, 2 * p.D * one} {
			for _, n := range []int{from - p.N, from - 1, from, from + 1, from + p.N, from + one/2} {
				sig := text(1, max(n, 0))
				compare(t, fmt.Sprint("Found from bytes: ", n), p, Found(x, p, sig, text(2, p.N), "u", where), found(x, p, sig, text(2, p.N), "u", where))
			}
		}
	})
}

func TestWhatFollowsASignatureDoesNotCount(t *testing.T) {
	t.Parallel()
	x := tables.Make()
	for _, p := range append(sets(t, 2, 13, 14), forests()[:9]...) {
		where := within(p)[2]
		sig := Sign(x, p, "s", "k", "u", where)
		for _, more := range []string{"\x00", text(1, p.N), sig} {
			compare(t, "Found", p, Found(x, p, sig+more, "s", "u", where), Root(x, p, "k", "u"))
		}
	}
}

func TestFoundOfAllLengths(t *testing.T) {
	t.Parallel()
	x := tables.Make()
	each(t, sets(t, 1, 2, 6, 8, 10, 13, 14), func(t *testing.T, _ int, p api.Forest) {
		sig, where := text(1, p.D*oneLayer(p)), within(p)[2]
		for _, n := range []int{0, 1, p.N - 1, p.N + 1, 500} {
			other := text(4, n)
			compare(t, "Found for another string", p, Found(x, p, sig, other, "u", where), found(x, p, sig, other, "u", where))
			compare(t, "Found with another public seed", p, Found(x, p, sig, "s", other, where), found(x, p, sig, "s", other, where))
		}
	})
}

// P19.1 to P19.3

func TestNothingOfInvalidParameters(t *testing.T) {
	t.Parallel()
	x := tables.Make()
	for _, p := range wrong(t) {
		for _, s := range []string{"", "s", text(1, 3000)} {
			compare(t, "Root", p, Root(x, p, s, s), "")
			for _, where := range [][2]uint64{{}, {1, 1}, {math.MaxUint64, math.MaxUint64}} {
				compare(t, "Sign", p, Sign(x, p, s, s, s, where), "")
				compare(t, "Found", p, Found(x, p, s, s, s, where), "")
			}
		}
	}
}

func TestLongStrings(t *testing.T) {
	t.Parallel()
	x := tables.Make()
	long, where := text(1, api.MaxMessage+10000), [2]uint64{6, 1}
	for family := 1; family <= 2; family++ {
		p := api.Forest{Family: family, N: 4, H: 6, D: 3, A: 1, K: 1}
		compare(t, "Sign of a long string", p, Sign(x, p, long, "k", "u", where), strings.Join(signature(x, p, long, "k", "u", where), ""))
		compare(t, "Found from a long signature", p, Found(x, p, long, "s", "u", where), found(x, p, long, "s", "u", where))
		compare(t, "Found for a long string", p, Found(x, p, Sign(x, p, long, "k", "u", where), long, "u", where), Root(x, p, "k", "u"))
	}
}

func TestTheTablesThatArePassedAreUsed(t *testing.T) {
	t.Parallel()
	for _, x := range []api.Tables{odd(), {}} {
		for i, p := range lowForests() {
			key, public, s, where := text(i, p.N), text(i+1, p.N), text(i+2, p.N), within(p)[i%4]
			sig := Sign(x, p, s, key, public, where)
			compare(t, "Sign", p, sig, strings.Join(signature(x, p, s, key, public, where), ""))
			compare(t, "Found", p, Found(x, p, text(i+3, len(sig)), s, public, where), found(x, p, text(i+3, len(sig)), s, public, where))
			compare(t, "Root", p, Root(x, p, key, public), xmss.Node(x, p, key, public, api.Adrs{Layer: uint64(p.D) - 1}, [2]int{0, p.H / p.D}))
			compare(t, "Found of a signature", p, Found(x, p, sig, s, public, where), Root(x, p, key, public))
		}
	}
}

// P19.4

func TestFoundOfASignatureIsTheRoot(t *testing.T) {
	t.Parallel()
	x := tables.Make()
	each(t, append(forests(), sets(t, 2, 4, 6, 8, 10, 12, 13, 14)...), func(t *testing.T, i int, p api.Forest) {
		key, public, s := text(i, p.N), text(i+1, p.N), text(i+2, i)
		root := Root(x, p, key, public)
		for _, where := range within(p) {
			compare(t, fmt.Sprint("Found at ", where), p, Found(x, p, Sign(x, p, s, key, public, where), s, public, where), root)
		}
	})
}

func TestFoundOfEachOfFewPositionsIsTheRoot(t *testing.T) {
	t.Parallel()
	x := tables.Make()
	for family := 1; family <= 2; family++ {
		for _, p := range []api.Forest{{Family: family, N: 4, H: 3, D: 3, A: 1, K: 1}, {Family: family, N: 4, H: 4, D: 2, A: 1, K: 1}, {Family: family, N: 18, H: 4, D: 4, A: 1, K: 1}} {
			root := Root(x, p, "k", "u")
			seen := map[string]bool{}
			for n := range 1 << p.H {
				where := [2]uint64{uint64(n >> (p.H / p.D)), uint64(n)}
				sig := Sign(x, p, "s", "k", "u", where)
				compare(t, fmt.Sprint("Found at ", where), p, Found(x, p, sig, "s", "u", where), root)
				if seen[sig] {
					t.Errorf("%v: another position has the signature of %v", p, where)
				}
				seen[sig] = true
			}
		}
	}
}

func TestTreesThatThereAreNotLeadElsewhere(t *testing.T) {
	t.Parallel()
	x := tables.Make()
	each(t, forests(), func(t *testing.T, i int, p api.Forest) {
		if p.H/p.D > 5 { // higher trees take long, and tell no more
			return
		}
		if p.N < 4 { // the nodes are so short that they may be equal by chance
			p.N = 4
		}
		root := Root(x, p, "k", "u")
		for _, where := range beyond(p) {
			sig := Sign(x, p, "s", "k", "u", where)
			got := Found(x, p, sig, "s", "u", where)
			top, _ := spot(p, p.D-1, where)
			if top.Tree == 0 || got == root {
				t.Errorf("%v: the signature at %v leads to the root", p, where)
			}
			compare(t, fmt.Sprint("Found at ", where), p, got, xmss.Node(x, p, "k", "u", top, [2]int{0, p.H / p.D}))
		}
	})
}

// flipped returns s with one bit changed.
func flipped(s string, bit int) string {
	b := []byte(s)
	b[bit/8] ^= 1 << (bit % 8)
	return string(b)
}

func TestFoundOfSomethingElseIsNotTheRoot(t *testing.T) {
	t.Parallel()
	x := tables.Make()
	for _, kind := range []int{2, 8} {
		p := set(t, kind)
		key, public, s := text(1, p.N), text(2, p.N), text(3, p.N)
		where := [2]uint64{0x1234567890abcde, 5}
		sig, root := Sign(x, p, s, key, public, where), Root(x, p, key, public)
		differs := func(what, got string) {
			t.Helper()
			if got == root {
				t.Errorf("set %d: %s leads to the root", kind, what)
			}
		}
		compare(t, "Found", p, Found(x, p, sig, s, public, where), root)
		for bit := 0; bit < 8*p.N; bit += 13 {
			differs("another string", Found(x, p, sig, flipped(s, bit), public, where))
		}
		for layer := range p.D {
			at := layer*oneLayer(p) + layer*p.N
			differs("another signature", Found(x, p, flipped(sig, 8*at+layer), s, public, where))
			differs("another tree", Found(x, p, sig, s, public, [2]uint64{where[0] ^ 1<<(3*layer), where[1]}))
		}
		for leaf := range uint64(3) {
			differs("another leaf", Found(x, p, sig, s, public, [2]uint64{where[0], where[1] ^ 1<<leaf}))
		}
		differs("another public seed", Found(x, p, sig, s, flipped(public, 5), where))
		differs("a cut signature", Found(x, p, sig[:len(sig)-1], s, public, where))
		differs("no signature", Found(x, p, "", s, public, where))
		differs("another key", Root(x, p, flipped(key, 5), public))
		differs("another public seed", Root(x, p, key, flipped(public, 5)))
	}
}

// R4

func TestResultsAreAlwaysTheSame(t *testing.T) {
	t.Parallel()
	x := tables.Make()
	for _, p := range sets(t, 2, 12, 13, 14) {
		where := [2]uint64{7, 1}
		all := func() string {
			sig := Sign(x, p, "s", "k", "u", where)
			return strings.Join([]string{sig, Root(x, p, "k", "u"), Found(x, p, sig, "t", "u", where)}, "|")
		}
		if all() != all() {
			t.Errorf("%v: another result of the same arguments", p)
		}
		if where != [2]uint64{7, 1} {
			t.Errorf("%v: the position became %v", p, where)
		}
	}
	if !tables.Right(x) {
		t.Error("the tables were changed")
	}
}
