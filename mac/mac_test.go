package mac

import (
	"crypto/hmac"
	"crypto/sha256"
	"crypto/sha512"
	"encoding/binary"
	"encoding/hex"
	"hash"
	"math"
	"strings"
	"testing"
	"unsafe"

	"sigil/api"
	"sigil/sha"
	"sigil/tables"
)

// text returns n bytes without a short period.
func text(n int) string {
	b := make([]byte, n)
	for i := range b {
		b[i] = byte(i*i*11 + i*89 + 5 + i/253)
	}
	return string(b)
}

// odd returns tables that are not those of chapter 2.
func odd() api.Tables {
	t := tables.Make()
	t.Small[9] += 77
	t.Large[70]--
	t.SmallStart[0] = 1
	t.LargeStart[7] = 2
	return t
}

// all returns tables of several kinds.
func all() []api.Tables {
	return []api.Tables{tables.Make(), odd(), {}}
}

// hashed returns the hash of s by package sha.
func hashed(x api.Tables, wide bool, s string) string {
	if wide {
		return sha.Large(x, s)
	}
	return sha.Small(x, s)
}

// standard returns Go's own SHA-256 or SHA-512.
func standard(wide bool) func() hash.Hash {
	if wide {
		return sha512.New
	}
	return sha256.New
}

// sizes returns the bytes of a block and of a hash.
func sizes(wide bool) (int, int) {
	h := standard(wide)()
	return h.BlockSize(), h.Size()
}

// standardHmac returns Go's own HMAC.
func standardHmac(wide bool, key, s string) string {
	h := hmac.New(standard(wide), []byte(key))
	h.Write([]byte(s))
	return string(h.Sum(nil))
}

// masked returns the first so many hashes of seed and a number, one after another.
func masked(wide bool, seed string, hashes int) string {
	h := standard(wide)()
	var b []byte
	for i := range hashes {
		h.Reset()
		h.Write([]byte(seed))
		h.Write(binary.BigEndian.AppendUint32(nil, uint32(i)))
		b = h.Sum(b)
	}
	return string(b)
}

// P4.1

func TestHashIsSmallOrLarge(t *testing.T) {
	for i, x := range all() {
		for _, n := range []int{0, 1, 3, 55, 56, 63, 64, 65, 111, 112, 127, 128, 129, 300, 70000} {
			s := text(n)
			if got, want := Hash(x, false, s), sha.Small(x, s); got != want || len(got) != 32 {
				t.Errorf("tables %d: Hash of %d bytes, not wide = %x; want %x", i, n, got, want)
			}
			if got, want := Hash(x, true, s), sha.Large(x, s); got != want || len(got) != 64 {
				t.Errorf("tables %d: Hash of %d bytes, wide = %x; want %x", i, n, got, want)
			}
		}
	}
}

func TestHashOfTheStandard(t *testing.T) {
	x := tables.Make()
	if got := hex.EncodeToString([]byte(Hash(x, false, "abc"))); got != "ba7816bf8f01cfea414140de5dae2223b00361a396177a9cb410ff61f20015ad" {
		t.Errorf("Hash of abc, not wide = %s", got)
	}
	if got := hex.EncodeToString([]byte(Hash(x, true, "abc"))); got != "ddaf35a193617abacc417349ae20413112e6fa4e89a97ea20a9eeee64b55d39a2192992a274fc1a836ba3c23a3feebbd454d4423643ce80e2a9ac94fa54ca49f" {
		t.Errorf("Hash of abc, wide = %s", got)
	}
}

// P4.2

// vectors are the examples of RFC 4231, but the one that is cut, and one of the chapter.
var vectors = []struct{ key, s, small, large string }{
	{
		"key",
		"The quick brown fox jumps over the lazy dog",
		"f7bc83f430538424b13298e6aa6fb143ef4d59a14946175997479dbc2d1a3cd8",
		"b42af09057bac1e2d41708e48a902e09b5ff7f12ab428a4fe86653c73dd248fb82f948a549f7b791a5b41915ee4d1ec3935357e4e2317250d0372afa2ebeeb3a",
	},
	{
		strings.Repeat("\x0b", 20),
		"Hi There",
		"b0344c61d8db38535ca8afceaf0bf12b881dc200c9833da726e9376c2e32cff7",
		"87aa7cdea5ef619d4ff0b4241a1d6cb02379f4e2ce4ec2787ad0b30545e17cdedaa833b7d6b8a702038b274eaea3f4e4be9d914eeb61f1702e696c203a126854",
	},
	{
		"Jefe",
		"what do ya want for nothing?",
		"5bdcc146bf60754e6a042426089575c75a003f089d2739839dec58b964ec3843",
		"164b7a7bfcf819e2e395fbe73b56e0a387bd64222e831fd610270cd7ea2505549758bf75c05a994a6d034f65f8f0e6fdcaeab1a34d4a6b4b636e070a38bce737",
	},
	{
		strings.Repeat("\xaa", 20),
		strings.Repeat("\xdd", 50),
		"773ea91e36800e46854db8ebd09181a72959098b3ef8c122d9635514ced565fe",
		"fa73b0089d56a284efb0f0756c890be9b1b5dbdd8ee81a3655f83e33b2279d39bf3e848279a722c806b485a47e67c807b946a337bee8942674278859e13292fb",
	},
	{
		"\x01\x02\x03\x04\x05\x06\x07\x08\x09\x0a\x0b\x0c\x0d\x0e\x0f\x10\x11\x12\x13\x14\x15\x16\x17\x18\x19",
		strings.Repeat("\xcd", 50),
		"82558a389a443c0ea4cc819899f2083a85f0faa3e578f8077a2e3ff46729665b",
		"b0ba465637458c6990e5a8c5f61d4af7e576d97ff94b872de76f8050361ee3dba91ca5c11aa25eb4d679275cc5788063a5f19741120c4f2de2adebeb10a298dd",
	},
	{
		strings.Repeat("\xaa", 131),
		"Test Using Larger Than Block-Size Key - Hash Key First",
		"60e431591ee0b67f0d8a26aacbf5b77f8e0bc6213728c5140546040f0ee37f54",
		"80b24263c7c1a3ebb71493c1dd7be8b49b46d1f41b4aeec1121b013783f8f3526b56d037e05f2598bd0fd2215d6a1e5295e64f73f63f0aec8b915a985d786598",
	},
	{
		strings.Repeat("\xaa", 131),
		"This is a test using a larger than block-size key and a larger than block-size data. The key needs to be hashed before being used by the HMAC algorithm.",
		"9b09ffa71b942fcb27635fbcd5b0e944bfdc63644f0713938a7f51535c3a35e2",
		"e37b6a775dc87dbaa4dfa9f96e5e3ffddebd71f8867289865df5a32d20cdc944b6022cac3c4982b10d5eeb55c3e4de15134676fb6de0446065c97440fa8c6a58",
	},
}

func TestHmacOfTheStandard(t *testing.T) {
	x := tables.Make()
	for i, c := range vectors {
		if got := hex.EncodeToString([]byte(Hmac(x, false, c.key, c.s))); got != c.small {
			t.Errorf("vector %d, not wide: %s; want %s", i, got, c.small)
		}
		if got := hex.EncodeToString([]byte(Hmac(x, true, c.key, c.s))); got != c.large {
			t.Errorf("vector %d, wide: %s; want %s", i, got, c.large)
		}
	}
}

func TestHmacOfKeysAndMessagesOfAnyLength(t *testing.T) {
	x := tables.Make()
	for _, wide := range []bool{false, true} {
		for key := range 300 {
			for _, n := range []int{0, 1, 55, 56, 64, 111, 112, 128, 1000} {
				k, s := text(key), text(n + 3)[3:]
				if Hmac(x, wide, k, s) != standardHmac(wide, k, s) {
					t.Errorf("wide %t: another Hmac of %d bytes with a key of %d bytes", wide, n, key)
				}
			}
		}
		for _, k := range []string{strings.Repeat("\xff", 128), strings.Repeat("\\", 128), strings.Repeat("6", 64), "\x00", "é\x00\x80", text(70000)} {
			for _, s := range []string{"", "\x00", "é\xff", text(70000)} {
				if Hmac(x, wide, k, s) != standardHmac(wide, k, s) {
					t.Errorf("wide %t: another Hmac of %d bytes with a key of %d bytes", wide, len(s), len(k))
				}
			}
		}
	}
}

// mixed returns a block of the key, each byte of it mixed with x.
func mixed(key string, block int, x byte) string {
	key += strings.Repeat("\x00", block-len(key))
	var b []byte
	for _, c := range []byte(key) {
		b = append(b, c^x)
	}
	return string(b)
}

func TestHmacUsesTheTablesThatArePassed(t *testing.T) {
	for i, x := range all() {
		for _, wide := range []bool{false, true} {
			block, _ := sizes(wide)
			for _, n := range []int{0, 1, block - 1, block, block + 1, 500} {
				key, s := text(n), text(90)
				short := key
				if n > block {
					short = hashed(x, wide, key)
				}
				want := hashed(x, wide, mixed(short, block, 92)+hashed(x, wide, mixed(short, block, 54)+s))
				if got := Hmac(x, wide, key, s); got != want {
					t.Errorf("tables %d, wide %t: Hmac with a key of %d bytes = %x; want %x", i, wide, n, got, want)
				}
			}
		}
	}
}

// P4.3

func TestMaskThatIsKnown(t *testing.T) {
	x := tables.Make()
	if got := hex.EncodeToString([]byte(Mask(x, false, "bar", 50))); got != "382576a7841021cc28fc4c0948753fb8312090cea942ea4c4e735d10dc724b155f9f6069f289d61daca0cb814502ef04eae1" {
		t.Errorf("Mask of bar, not wide = %s", got)
	}
	if got, want := Mask(x, true, "bar", 70), sha.Large(x, "bar\x00\x00\x00\x00")+sha.Large(x, "bar\x00\x00\x00\x01")[:6]; got != want {
		t.Errorf("Mask of bar, wide = %x; want %x", got, want)
	}
}

func TestMaskHasTheBytesThatAreAskedFor(t *testing.T) {
	x := tables.Make()
	for _, wide := range []bool{false, true} {
		_, size := sizes(wide)
		for _, seed := range []string{"", "s", "\x00\x00\x00\x00", text(59), text(60), text(64), text(124), text(128), text(1000)} {
			long := masked(wide, seed, 400/size+1)
			for n := 1; n <= 400; n++ {
				if got := Mask(x, wide, seed, n); got != long[:n] {
					t.Errorf("wide %t: another Mask of %d bytes of a seed of %d bytes: %x", wide, n, len(seed), got)
				}
			}
		}
	}
}

func TestMaskOfNoBytesIsEmpty(t *testing.T) {
	x := tables.Make()
	for _, wide := range []bool{false, true} {
		for _, n := range []int{0, -1, -32, -64, -api.MaxRecord, math.MinInt, math.MinInt + 1} {
			for _, seed := range []string{"", "s", text(200)} {
				if got := Mask(x, wide, seed, n); got != "" {
					t.Errorf("wide %t: Mask of %d bytes = %x", wide, n, got)
				}
			}
		}
	}
}

func TestMaskEndsWithTheHashThatReachesMaxRecord(t *testing.T) {
	x := tables.Make()
	cases := []struct {
		wide bool
		most int // the least multiple of the hash's size from 50000 on
	}{{false, 50016}, {true, 50048}}
	for _, c := range cases {
		_, size := sizes(c.wide)
		for _, seed := range []string{"seed", text(api.MaxMessage)} {
			long := masked(c.wide, seed, c.most/size)
			if len(long) != c.most {
				t.Fatalf("wide %t: %d bytes are expected; want %d", c.wide, len(long), c.most)
			}
			for _, n := range []int{
				255 * size, 256 * size, 256*size + 1, 49984, 49985, 49999, 50000, 50001, 50015, 50016, 50017, 50047, 50048, 50049,
				60000, 1 << 20, 1<<32 + 1, 1 << 40, api.MaxInt, math.MaxInt,
			} {
				if got := Mask(x, c.wide, seed, n); got != long[:min(n, c.most)] {
					t.Errorf("wide %t: Mask of %d bytes of a seed of %d bytes has %d bytes, or others", c.wide, n, len(seed), len(got))
				}
			}
		}
	}
}

func TestMaskUsesTheTablesThatArePassed(t *testing.T) {
	for i, x := range all() {
		for _, wide := range []bool{false, true} {
			for _, n := range []int{0, 5, 64, 200} {
				seed := text(n)
				want := hashed(x, wide, seed+"\x00\x00\x00\x00") + hashed(x, wide, seed+"\x00\x00\x00\x01")
				if got := Mask(x, wide, seed, len(want)); got != want {
					t.Errorf("tables %d, wide %t: Mask of a seed of %d bytes = %x; want %x", i, wide, n, got, want)
				}
			}
		}
	}
}

// P4.4

func TestCut(t *testing.T) {
	cases := []struct {
		s    string
		n    int
		want string
	}{
		{"abc", 1, "a"},
		{"abc", 2, "ab"},
		{"abc", 3, "abc"},
		{"abc", 4, "abc"},
		{"abc", 9, "abc"},
		{"abc", api.MaxInt, "abc"},
		{"abc", math.MaxInt, "abc"},
		{"abc", 0, ""},
		{"abc", -1, ""},
		{"abc", -3, ""},
		{"abc", math.MinInt, ""},
		{"", 0, ""},
		{"", 1, ""},
		{"", -1, ""},
		{"", math.MaxInt, ""},
		{"", math.MinInt, ""},
		{"\x00\xff\x00", 2, "\x00\xff"},
		{"é", 1, "\xc3"},
		{text(70000), 60000, text(60000)},
		{text(70000), 70001, text(70000)},
	}
	for _, c := range cases {
		if got := Cut(c.s, c.n); got != c.want {
			t.Errorf("Cut of %d bytes to %d has %d bytes, or others than the first", len(c.s), c.n, len(got))
		}
	}
}

// P4.5

func TestALongerMaskBeginsWithAShorterOne(t *testing.T) {
	for i, x := range all() {
		for _, wide := range []bool{false, true} {
			long := Mask(x, wide, "seed", math.MaxInt)
			for _, n := range []int{1, 31, 32, 33, 63, 64, 65, 1000, 49999, 50000, 50001, 50015, 50016} {
				if short := Mask(x, wide, "seed", n); len(short) != n || !strings.HasPrefix(long, short) {
					t.Errorf("tables %d, wide %t: a mask of %d bytes does not begin with one of %d bytes", i, wide, len(long), n)
				}
			}
		}
	}
}

// P4.6

func TestALongKeyIsEquivalentToItsHash(t *testing.T) {
	for i, x := range all() {
		for _, wide := range []bool{false, true} {
			block, _ := sizes(wide)
			for _, n := range []int{block + 1, block + 2, 2 * block, 1000} {
				key := text(n)
				if Hmac(x, wide, key, "message") != Hmac(x, wide, Hash(x, wide, key), "message") {
					t.Errorf("tables %d, wide %t: a key of %d bytes is not equivalent to its Hash", i, wide, n)
				}
			}
			key := text(block)
			if Hmac(x, wide, key, "message") == Hmac(x, wide, Hash(x, wide, key), "message") {
				t.Errorf("tables %d, wide %t: a key of one block is replaced by its Hash", i, wide)
			}
		}
	}
}

func TestZeroBytesAfterAKeyMakeNoDifferenceInABlock(t *testing.T) {
	for i, x := range all() {
		for _, wide := range []bool{false, true} {
			block, _ := sizes(wide)
			for _, n := range []int{0, 1, 20, block - 1, block} {
				key := text(n)
				want := Hmac(x, wide, key, "message")
				for zeros := range block + 20 - n {
					got := Hmac(x, wide, key+strings.Repeat("\x00", zeros), "message")
					if fits := n+zeros <= block; fits != (got == want) {
						t.Errorf("tables %d, wide %t: %d zero bytes after %d bytes: the same is %t", i, wide, zeros, n, got == want)
					}
				}
			}
			if key := text(20); Hmac(x, wide, "\x00"+key, "message") == Hmac(x, wide, key, "message") {
				t.Errorf("tables %d, wide %t: a zero byte before a key makes no difference", i, wide)
			}
		}
	}
}

// R3

func TestCutIsNewMemory(t *testing.T) {
	s := text(100)
	for _, n := range []int{1, 50, 100, 200} {
		if got := Cut(s, n); unsafe.StringData(got) == unsafe.StringData(s) {
			t.Errorf("Cut to %d bytes is a part of the string", n)
		}
	}
}

// R4

func TestResultsAreAlwaysTheSame(t *testing.T) {
	x := tables.Make()
	for range 3 {
		if Hmac(x, false, "key", "message") != standardHmac(false, "key", "message") || Hmac(x, true, "key", "message") != standardHmac(true, "key", "message") {
			t.Error("another Hmac")
		}
		if Mask(x, false, "seed", 32) != masked(false, "seed", 1) || Mask(x, true, "seed", 64) != masked(true, "seed", 1) {
			t.Error("another Mask")
		}
	}
	if !tables.Right(x) {
		t.Error("the tables were changed")
	}
}
