package tweak

import (
	"encoding/hex"
	"math"
	"strings"
	"testing"

	"sigil/adrs"
	"sigil/api"
	"sigil/tables"
)

// text returns n bytes without a short period; others for another which.
func text(which, n int) string {
	b := make([]byte, n)
	for i := range b {
		b[i] = byte(i*i*13 + i*97 + 31*which + 7 + i/241)
	}
	return string(b)
}

// odd returns tables that are not those of chapter 2.
func odd() api.Tables {
	x := tables.Make()
	x.Small[11] += 5
	x.Large[60]--
	x.SmallStart[1] = 4
	x.LargeStart[6] = 3
	x.Rounds[7] ^= 1 << 33
	x.Turns[12]++
	return x
}

// set returns the parameters of a kind.
func set(t *testing.T, kind int) api.Forest {
	t.Helper()
	p, e := adrs.Set(kind)
	if e != api.OK {
		t.Fatalf("there is no set %d", kind)
	}
	return p
}

// forests returns the parameters of all kinds, and, for both families, of each N.
func forests(t *testing.T) []api.Forest {
	t.Helper()
	var all []api.Forest
	for kind := 1; kind <= 14; kind++ {
		all = append(all, set(t, kind))
	}
	for n := 2; n <= 32; n++ {
		for family := 1; family <= 2; family++ {
			layers := 1 + n%7
			all = append(all, api.Forest{Family: family, N: n, H: layers * (1 + n%9), D: layers, A: 1 + n%14, K: 1 + 3*n%35})
		}
	}
	return all
}

// addresses returns addresses of each kind, small and great ones.
func addresses() []api.Adrs {
	all := []api.Adrs{
		{},
		{Layer: 21, Tree: 1<<63 + 5, Kind: api.AdrForsSk, Pair: 511, High: 14, Low: 1<<32 - 1},
		{Layer: math.MaxUint64, Tree: math.MaxUint64, Kind: math.MinInt, Pair: math.MaxUint64, High: math.MaxUint64, Low: math.MaxUint64},
		{Layer: 1 << 40, Tree: 1, Kind: -1},
	}
	for kind := range 7 {
		n := uint64(kind)
		all = append(all, api.Adrs{Layer: n, Tree: 700*n + 1, Kind: kind, Pair: n + 2, High: n + 3, Low: n + 4})
	}
	return all
}

// lengths returns lengths of strings that matter for N, and where blocks end.
func lengths(n int) []int {
	return []int{0, 1, n - 1, n, n + 1, 2*n - 1, 2 * n, 35 * n, 63, 64, 65, 127, 128, 129, 136, 137, 1000}
}

// compare reports that a function returned another string than it should.
func compare(t *testing.T, what string, p api.Forest, got, want string) {
	t.Helper()
	if got != want {
		t.Errorf("%s with %v = %x; want %x", what, p, got, want)
	}
}

// run returns consecutive bytes.
func run(from, n int) string {
	b := make([]byte, n)
	for i := range b {
		b[i] = byte(from + i)
	}
	return string(b)
}

// vectors were computed by the hash functions of Python, from the bytes that TestVectors passes: Prf, Hash of N bytes, Hash of 2 N bytes, Random, Digest.
var vectors = []struct {
	kind                             int
	prf, short, long, random, digest string
}{
	{1,
		"33a439fef8ad453961b1afcb8a6e52d5",
		"63be441b234446e2d7c9d72931992e80",
		"f28f3eec755e0139923347d9f03e8c1a",
		"29b0f86291446d25592510d9f3af35c3",
		"408af836c8754014bb17771faba78144f3a7396125e97044431fdb1bac95",
	},
	{3,
		"0c2d496bd629d93535eed9dcce0f5fb05aa8538b23ff6c5a",
		"d8d505dd9f9d107c386c04f1d627d2d45588f43c844885e9",
		"bb74c6f9ce59894936f7765b5641f89eb078e224ee9d27ef",
		"160e2ea0c780d653e763fbe39ad94f654971d78049aba020",
		"415ab5b20eff3ea35dfa2e4edccad2e51dd706b427fa685e01dbe758833ee2c382424dbeb8fefc",
	},
	{5,
		"71deaba2febadaf16e08b48dfdc4c4fe816ac7271e9647c73fa10cda1269c178",
		"eaff5d9759d20cdbb3306b06bade49f1851e53ca1a3f41495f08b8ca96641f18",
		"8f9d6d2b885b4820a79d70a97baf53dcb8ceea982efac85247a8a789087e93d0",
		"6bb93139e4302fd816b1fdbdaa436ad53fc5d64d3cf129ae1bb8ebef3025a73d",
		"794fd4d03e7542c24c931c12a3a0b419d314ac578a938fde6954404a3198e595866af562d09b846ffc8a04d43c30af",
	},
	{6,
		"71deaba2febadaf16e08b48dfdc4c4fe816ac7271e9647c73fa10cda1269c178",
		"eaff5d9759d20cdbb3306b06bade49f1851e53ca1a3f41495f08b8ca96641f18",
		"8f9d6d2b885b4820a79d70a97baf53dcb8ceea982efac85247a8a789087e93d0",
		"6bb93139e4302fd816b1fdbdaa436ad53fc5d64d3cf129ae1bb8ebef3025a73d",
		"794fd4d03e7542c24c931c12a3a0b419d314ac578a938fde6954404a3198e595866af562d09b846ffc8a04d43c30af2090",
	},
	{7,
		"026ab7504aebab17d23439c953a2f9b2",
		"03eee6fc80d07f99f166c438e5b1339a",
		"09556aab96a581536835967b9bbefa3c",
		"383d63b2066c516980876c963630f9b5",
		"1a3e08232604e7267ccea760077123bd87c18124f459a833ee2c2befc40b",
	},
	{9,
		"2670726edc31883530d8561f95a250b350f1ac27f786d9fa",
		"d518d9d4eef5eb363c678266efeb45ec65fbfe805a3ea4ee",
		"fb4431f16069b66574a2258d33b776e343e86d92136905ef",
		"44dae77536335efc176e9080acb8cd6bf4d7dd597ddf26b6",
		"d59fab722f2dabb1490dc98ef8bd355ea15eab47056a5017ba59ca1cc93b251c2347c0ec1d2d3a",
	},
	{11,
		"18a191fecfe51e9441edcd0b68a0c3944d7f86349831db841ebf7f61ad1966b0",
		"3c18d68fe101532de041bd0bb19b393ccefb8ef7e79aa150e89d4f29263271f9",
		"1220097462e7156b1e66d011ef60ac964582242d01510db3856108362fd81a82",
		"e7d07a530c1090484e0a17ea0b9edc3950e9130deb95a6ce6a4dad5dd53d3419",
		"26de99eecabb6ffb053bdc25982dccfcbc67310e23ff5f17f3ba5782903dd13ea72706b56b137746e29b5adcde2000",
	},
	{12,
		"18a191fecfe51e9441edcd0b68a0c3944d7f86349831db841ebf7f61ad1966b0",
		"3c18d68fe101532de041bd0bb19b393ccefb8ef7e79aa150e89d4f29263271f9",
		"1220097462e7156b1e66d011ef60ac964582242d01510db3856108362fd81a82",
		"e7d07a530c1090484e0a17ea0b9edc3950e9130deb95a6ce6a4dad5dd53d3419",
		"26de99eecabb6ffb053bdc25982dccfcbc67310e23ff5f17f3ba5782903dd13ea72706b56b137746e29b5adcde200005bd",
	},
	{13,
		"d125fd85",
		"de248270",
		"cd604bca",
		"fa1797fc",
		"532a",
	},
	{14,
		"96deaaa7",
		"ea39941d",
		"02ae4fb6",
		"c9a54a48",
		"04dd",
	},
}

func TestVectors(t *testing.T) {
	x := tables.Make()
	a := api.Adrs{Layer: 1, Tree: 2, Kind: 3, Pair: 4, High: 5, Low: 6}
	for _, c := range vectors {
		p := set(t, c.kind)
		public := run(0, p.N)
		for _, each := range []struct{ what, got, want string }{
			{"Prf", Prf(x, p, public, run(32, p.N), a), c.prf},
			{"Hash of N bytes", Hash(x, p, public, a, run(64, p.N)), c.short},
			{"Hash of 2 N bytes", Hash(x, p, public, a, run(96, 2*p.N)), c.long},
			{"Random", Random(x, p, run(160, p.N), run(192, p.N), "abc"), c.random},
			{"Digest", Digest(x, p, run(128, p.N), public, run(224, p.N), "abc"), c.digest},
		} {
			if got := hex.EncodeToString([]byte(each.got)); got != each.want {
				t.Errorf("set %d: %s = %s; want %s", c.kind, each.what, got, each.want)
			}
		}
	}
}

// P16.1

func TestPrfOfAllSetsAndLengths(t *testing.T) {
	x, f := tables.Make(), standard()
	for _, p := range forests(t) {
		for _, n := range lengths(p.N) {
			for _, a := range addresses()[:6] {
				compare(t, "Prf", p, Prf(x, p, text(1, p.N), text(2, n), a), f.prf(p, text(1, p.N), text(2, n), a))
				compare(t, "Prf with another public seed", p, Prf(x, p, text(3, n), text(4, p.N), a), f.prf(p, text(3, n), text(4, p.N), a))
			}
		}
	}
}

// P16.2

func TestRandomOfAllSetsAndLengths(t *testing.T) {
	x, f := tables.Make(), standard()
	for _, p := range forests(t) {
		for _, n := range lengths(p.N) {
			compare(t, "Random", p, Random(x, p, text(1, p.N), text(2, p.N), text(3, n)), f.random(p, text(1, p.N), text(2, p.N), text(3, n)))
			compare(t, "Random with another key", p, Random(x, p, text(1, n), text(2, p.N), "abc"), f.random(p, text(1, n), text(2, p.N), "abc"))
			compare(t, "Random with other random bytes", p, Random(x, p, text(1, p.N), text(2, n), "abc"), f.random(p, text(1, p.N), text(2, n), "abc"))
		}
	}
}

// published are the secret keys, random bytes and messages of signatures among NIST's samples for SLH-DSA (ACVP), and the bytes with which the signatures begin.
var published = []struct {
	kind                 int
	key, random, s, want string
}{
	{2, "08aec2421307f7ef5b30c5c5102c6407", "df88b620a4dd852bb3b0ca2bd3e924e4", "f9", "64d80fac959c87dda64f93566784451d"},
	{8, "68c7b3b972b392d3bee085435358f698", "3e41f070aec01075cf1d045b3de39681", "25", "4a946b5973a6541f9732d790a1705adf"},
	{4, "7851489a78d31582ed527c87c758159ff62023d75b84f5ba", "fc6a9300c71957159a6b0d29e7030124dfa0be498f555bb4", "a2", "7f52d606894748eb4c57f42d4e22b98155ca7e14c2fa3a32"},
	{10, "06eee658ad9da4707568135042f3a046569fca7e5891e964", "562632e6b60162a998f43b778a846a5dcba2a16ff5efd837", "35", "cb772161c546fdb4806fa086ce92fdb2a017737661d45d37"},
	{6, "04ad9add689d611c0997da044facb066167466c0e189b331b5a7f1e999e1e35c", "84cd080f79992d23caee10460669666b6a2b77a2b46db505913d0b56c0411d79", "89", "ac21a947a1ee84c4adf36e07b30a62b02d964ed354756a2d4f721aeed38bde56"},
	{12, "8a94df5771746fc56274d57287c77b381dba5d2562aeb0180bac6af9cd3aed7e", "38b43bf58908d779a8b3c2c4d898d75d8d107eeaa2e4f51fa26446cddbf9771a", "27", "efce2e9593e6009a8c02602e732d0a0423abcc0241536697c261830d63969a12"},
}

// unhex returns the bytes that hexadecimal digits stand for.
func unhex(t *testing.T, s string) string {
	t.Helper()
	b, err := hex.DecodeString(s)
	if err != nil {
		t.Fatal(err)
	}
	return string(b)
}

func TestRandomOfPublishedSignatures(t *testing.T) {
	x := tables.Make()
	for _, c := range published {
		p := set(t, c.kind)
		compare(t, "Random", p, Random(x, p, unhex(t, c.key), unhex(t, c.random), unhex(t, c.s)), unhex(t, c.want))
	}
}

// P16.3

func TestDigestOfAllSetsAndLengths(t *testing.T) {
	x, f := tables.Make(), standard()
	for _, p := range forests(t) {
		r, public, root := text(1, p.N), text(2, p.N), text(3, p.N)
		for _, n := range lengths(p.N) {
			other := text(4, n)
			compare(t, "Digest", p, Digest(x, p, r, public, root, other), f.digest(p, r, public, root, other))
			compare(t, "Digest with another r", p, Digest(x, p, other, public, root, "abc"), f.digest(p, other, public, root, "abc"))
			compare(t, "Digest with another public seed", p, Digest(x, p, r, other, root, "abc"), f.digest(p, r, other, root, "abc"))
			compare(t, "Digest with another root", p, Digest(x, p, r, public, other, "abc"), f.digest(p, r, public, other, "abc"))
		}
	}
}

// P16.4

func TestHashOfAllSetsAndLengths(t *testing.T) {
	x, f := tables.Make(), standard()
	for _, p := range forests(t) {
		for _, n := range lengths(p.N) {
			for _, a := range addresses()[:6] {
				compare(t, "Hash", p, Hash(x, p, text(1, p.N), a, text(2, n)), f.placedHash(p, text(1, p.N), a, text(2, n)))
				compare(t, "Hash with another public seed", p, Hash(x, p, text(3, n), a, text(4, 2*p.N)), f.placedHash(p, text(3, n), a, text(4, 2*p.N)))
			}
		}
	}
}

// nodes are the topmost trees of the published keys: made by Prf and Hash alone, as FIPS 205 does it.
type nodes struct {
	x              api.Tables
	p              api.Forest
	public, secret string
}

// leaf returns the public key of a one-time signature.
func (k nodes) leaf(pair uint64) string {
	chains, sums, _ := adrs.Lengths(k.p)
	at := api.Adrs{Layer: uint64(k.p.D - 1), Pair: pair}
	ends := ""
	for i := range uint64(chains + sums) {
		at.Kind, at.High, at.Low = api.AdrWotsSk, i, 0
		end := Prf(k.x, k.p, k.public, k.secret, at)
		at.Kind = api.AdrWots
		for at.Low = range uint64(15) {
			end = Hash(k.x, k.p, k.public, at, end)
		}
		ends += end
	}
	at.Kind, at.High, at.Low = api.AdrWotsPk, 0, 0
	return Hash(k.x, k.p, k.public, at, ends)
}

// node returns a node of the tree, at a height.
func (k nodes) node(height, low uint64) string {
	if height == 0 {
		return k.leaf(low)
	}
	at := api.Adrs{Layer: uint64(k.p.D - 1), Kind: api.AdrTree, High: height, Low: low}
	return Hash(k.x, k.p, k.public, at, k.node(height-1, 2*low)+k.node(height-1, 2*low+1))
}

func TestRootsOfPublishedKeys(t *testing.T) {
	x := tables.Make()
	// The first key of each fast set among NIST's samples for SLH-DSA (ACVP): the public seed, the secret seed, the root.
	for _, c := range []struct {
		kind                 int
		public, secret, root string
	}{
		{2, "74d98d5000af53b98f36389a1292bed3", "aed6f6f5c5408bbffa1136bc9049a701", "f4a650c56c426fcfdb88e3355459440c"},
		{4, "8330589c20701aa9f11b473b67e1d67e1c6a2eb6c86265ed", "45d7131c727df1cc51db85b44e37868215df8aec5d1b552f", "13a3ea895c4eeeadde8a796bba5233f0d86ee5cbf2a6f99c"},
		{6, "0d50e82bedb42e03cc967e7fd24c12777855a946fd49471184330f096a75b561", "b8abc485122be003cf36d677bee7f47ea1017c39d96d0c56a87a7adad24f731a", "7fb65fbd08d05f24f20cb3875e28fac4a52a2513c7ef447b8e9328632a684cf7"},
		{8, "bc435c3e66e4c2e4fbc09779da5f74d4", "cd4a308c03d970508572c0815d7488b7", "4ea0e0df05c2457bcc81f59928433390"},
		{10, "124623ba6ca1bc1b0e1a303099e2a608b0ac41715bc788a1", "855000fdfffba76962809c69432452f3dc79428f662c59b1", "9873c783378f935794abc0313243efc3f4a10a619cb1b1fe"},
		{12, "b3ef3825a515e0b2e4164db7ec805b4cf1c7a2de6e63d7df359b99b1f3063f25", "3de4b54a5f5fb98d6638fb3d8899355cc3582e8a397d0990cad032d78ee9e199", "aec38ff53c46aad930166957ca0db5c5466d0cbe9a11970987a230ebbb5450a4"},
	} {
		p := set(t, c.kind)
		k := nodes{x, p, unhex(t, c.public), unhex(t, c.secret)}
		compare(t, "the root of a published key", p, k.node(uint64(p.H/p.D), 0), unhex(t, c.root))
	}
}

// P16.1 to P16.4

func TestTheTablesThatArePassedAreUsed(t *testing.T) {
	for _, x := range []api.Tables{tables.Make(), odd(), {}} {
		f := below(x)
		for _, p := range forests(t) {
			for i, a := range addresses() {
				u, v, w, s := text(i, p.N), text(i+1, p.N), text(i+2, p.N), text(i+3, 20*i)
				compare(t, "Prf", p, Prf(x, p, u, v, a), f.prf(p, u, v, a))
				compare(t, "Random", p, Random(x, p, u, v, s), f.random(p, u, v, s))
				compare(t, "Digest", p, Digest(x, p, u, v, w, s), f.digest(p, u, v, w, s))
				compare(t, "Hash", p, Hash(x, p, u, a, s), f.placedHash(p, u, a, s))
			}
		}
	}
}

func TestLongStrings(t *testing.T) {
	x, f := tables.Make(), standard()
	long := text(1, api.MaxMessage+10000)
	a := addresses()[1]
	for kind := 1; kind <= 14; kind++ {
		p := set(t, kind)
		compare(t, "Prf with a long secret", p, Prf(x, p, "u", long, a), f.prf(p, "u", long, a))
		compare(t, "Random of a long message", p, Random(x, p, "k", "r", long), f.random(p, "k", "r", long))
		compare(t, "Random with a long key", p, Random(x, p, long, "r", "s"), f.random(p, long, "r", "s"))
		compare(t, "Digest of a long message", p, Digest(x, p, "r", "u", "v", long), f.digest(p, "r", "u", "v", long))
		compare(t, "Hash of a long string", p, Hash(x, p, "u", a, long), f.placedHash(p, "u", a, long))
	}
}

// wrong returns parameters that are not valid: zeros, and those of each kind with one number, or two, replaced.
func wrong(t *testing.T) []api.Forest {
	t.Helper()
	all := []api.Forest{{}, {Family: 1, N: 16}, {Family: 2, N: 32}}
	for kind := 1; kind <= 14; kind++ {
		for _, n := range []int{0, -1, 3 * 23, 1<<32 + 1, math.MaxInt, math.MinInt} {
			for field := range 6 {
				p := set(t, kind)
				*[]*int{&p.Family, &p.N, &p.H, &p.D, &p.A, &p.K}[field] = n
				all = append(all, p)
			}
		}
		p := set(t, kind)
		all = append(all, []api.Forest{
			{Family: 3, N: p.N, H: p.H, D: p.D, A: p.A, K: p.K},
			{Family: p.Family, N: 1, H: p.H, D: p.D, A: p.A, K: p.K},
			{Family: p.Family, N: 33, H: p.H, D: p.D, A: p.A, K: p.K},
			{Family: p.Family, N: 65, H: p.H, D: p.D, A: p.A, K: p.K},
			{Family: p.Family, N: 129, H: p.H, D: p.D, A: p.A, K: p.K},
			{Family: p.Family, N: p.N, H: 7, D: 2, A: p.A, K: p.K},
			{Family: p.Family, N: p.N, H: 10, D: 1, A: p.A, K: p.K},
			{Family: p.Family, N: p.N, H: p.H, D: p.D, A: 15, K: p.K},
			{Family: p.Family, N: p.N, H: p.H, D: p.D, A: p.A, K: 36},
		}...)
	}
	return all
}

func TestNothingOfInvalidParameters(t *testing.T) {
	x := tables.Make()
	for _, p := range wrong(t) {
		for _, s := range []string{"", "s", text(1, 100)} {
			for _, a := range addresses() {
				compare(t, "Prf", p, Prf(x, p, s, s, a), "")
				compare(t, "Hash", p, Hash(x, p, s, a, s), "")
			}
			compare(t, "Random", p, Random(x, p, s, s, s), "")
			compare(t, "Digest", p, Digest(x, p, s, s, s, s), "")
		}
	}
}

// P16.5

func TestResultsHaveTheStatedLength(t *testing.T) {
	x := tables.Make()
	for _, p := range forests(t) {
		for _, n := range []int{0, p.N, 3 * p.N} {
			s := text(1, n)
			for _, got := range []string{Prf(x, p, s, s, api.Adrs{}), Random(x, p, s, s, s), Hash(x, p, s, api.Adrs{}, s)} {
				if len(got) != p.N {
					t.Errorf("%v: %d bytes; want %d", p, len(got), p.N)
				}
			}
			if got := Digest(x, p, s, s, s, s); len(got) != digestBytes(p) {
				t.Errorf("%v: a digest of %d bytes; want %d", p, len(got), digestBytes(p))
			}
		}
	}
}

func TestDigestsOfAllHeights(t *testing.T) {
	x, f := tables.Make(), standard()
	most := 0
	for d := 1; d <= 22; d++ {
		for height := 1; height <= 9 && d*height <= 68; height++ {
			for i, k := range []int{1, 8, 17, 35} {
				p := api.Forest{Family: 1 + i%2, N: 2 + (7*d+height)%31, H: d * height, D: d, A: 14 - (d+i)%7*2, K: k}
				got := Digest(x, p, "r", "u", "v", "s")
				if got != f.digest(p, "r", "u", "v", "s") || len(got) != digestBytes(p) {
					t.Errorf("Digest with %v has %d bytes (want %d), or others", p, len(got), digestBytes(p))
				}
				most = max(most, len(got))
			}
		}
	}
	if most < 65 {
		t.Errorf("no digest has more than %d bytes, which one wide hash has", most)
	}
}

func TestLengthsOfTheExamples(t *testing.T) {
	x := tables.Make()
	for kind, want := range map[int]int{1: 16, 6: 32} {
		if got := Hash(x, set(t, kind), "", api.Adrs{}, ""); len(got) != want {
			t.Errorf("Hash for set %d returns %d bytes; want %d", kind, len(got), want)
		}
	}
}

// R4

func TestResultsAreAlwaysTheSame(t *testing.T) {
	x := tables.Make()
	for kind := 1; kind <= 14; kind++ {
		p := set(t, kind)
		all := func() string {
			return strings.Join([]string{Prf(x, p, "u", "v", api.Adrs{}), Random(x, p, "k", "r", "s"), Digest(x, p, "r", "u", "v", "s"), Hash(x, p, "u", api.Adrs{}, "s")}, "|")
		}
		if all() != all() {
			t.Errorf("set %d: another result of the same arguments", kind)
		}
	}
	if !tables.Right(x) {
		t.Error("the tables were changed")
	}
}
