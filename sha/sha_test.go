package sha

import (
	"crypto/sha256"
	"crypto/sha512"
	"encoding/hex"
	"math"
	"strings"
	"testing"
	"unsafe"

	"sigil/api"
	"sigil/tables"
)

// text returns n bytes without a short period.
func text(n int) string {
	b := make([]byte, n)
	for i := range b {
		b[i] = byte(i*i*7 + i*151 + 3 + i/251)
	}
	return string(b)
}

// odd returns tables that are not those of chapter 2.
func odd() api.Tables {
	t := tables.Make()
	for i := range t.Small {
		t.Small[i] = t.Small[i]*2654435761 + uint32(i)
	}
	for i := range t.Large {
		t.Large[i] = t.Large[i]*0x9e3779b97f4a7c15 + uint64(i)
	}
	for i := range t.SmallStart {
		t.SmallStart[i] = ^t.SmallStart[i] - uint32(i)
		t.LargeStart[i] = ^t.LargeStart[i] - uint64(i)
	}
	return t
}

// standard returns SHA-256 or SHA-512 of s.
func standard(wide bool, s string) string {
	if wide {
		sum := sha512.Sum512([]byte(s))
		return string(sum[:])
	}
	sum := sha256.Sum256([]byte(s))
	return string(sum[:])
}

// hash returns Small or Large of s.
func hash(t api.Tables, wide bool, s string) string {
	if wide {
		return Large(t, s)
	}
	return Small(t, s)
}

// fed returns h after s, which there is to be no error about.
func fed(t *testing.T, x api.Tables, h api.Hasher, s string) api.Hasher {
	t.Helper()
	after, e := Feed(x, h, s)
	if e != api.OK {
		t.Fatalf("Feed of %d bytes, after %d: error %d", len(s), h.Long, e)
	}
	return after
}

// ended returns the hash of h, which there is to be no error about.
func ended(t *testing.T, x api.Tables, h api.Hasher) string {
	t.Helper()
	s, e := End(x, h)
	if e != api.OK {
		t.Fatalf("End after %d bytes: error %d", h.Long, e)
	}
	return s
}

// P3.1, P3.2

// vectors are examples of the standards.
var vectors = []struct{ s, small, large string }{
	{
		"",
		"e3b0c44298fc1c149afbf4c8996fb92427ae41e4649b934ca495991b7852b855",
		"cf83e1357eefb8bdf1542850d66d8007d620e4050b5715dc83f4a921d36ce9ce47d0d13c5d85f2b0ff8318d2877eec2f63b931bd47417a81a538327af927da3e",
	},
	{
		"abc",
		"ba7816bf8f01cfea414140de5dae2223b00361a396177a9cb410ff61f20015ad",
		"ddaf35a193617abacc417349ae20413112e6fa4e89a97ea20a9eeee64b55d39a2192992a274fc1a836ba3c23a3feebbd454d4423643ce80e2a9ac94fa54ca49f",
	},
	{
		"abcdbcdecdefdefgefghfghighijhijkijkljklmklmnlmnomnopnopq",
		"248d6a61d20638b8e5c026930c3e6039a33ce45964ff2167f6ecedd419db06c1",
		"204a8fc6dda82f0a0ced7beb8e08a41657c16ef468b228a8279be331a703c33596fd15c13b1b07f9aa1d3bea57789ca031ad85c7a71dd70354ec631238ca3445",
	},
	{
		"abcdefghbcdefghicdefghijdefghijkefghijklfghijklmghijklmnhijklmnoijklmnopjklmnopqklmnopqrlmnopqrsmnopqrstnopqrstu",
		"cf5b16a778af8380036ce59e7b0492370b249b11e8f07a51afac45037afee9d1",
		"8e959b75dae313da8cf4f72814fc143f8f7779c6eb9f7fa17299aeadb6889018501d289e4900f7e4331b99dec4b5433ac7d329eeb6dd26545e96e55b874be909",
	},
	{
		strings.Repeat("a", 1000000),
		"cdc76e5c9914fb9281a1c7e284d73e67f1809a48a497200e046d39ccc7112cd0",
		"e718483d0ce769644e2e42c7bc15b4638e1f98b13b2044285632a803afa973ebde0ff244877ea60a4cb0432ce577c31beb009c5c2c49aa2e4eadb217ad8cc09b",
	},
}

func TestVectors(t *testing.T) {
	x := tables.Make()
	for _, c := range vectors {
		if got := hex.EncodeToString([]byte(Small(x, c.s))); got != c.small {
			t.Errorf("Small of %d bytes = %s; want %s", len(c.s), got, c.small)
		}
		if got := hex.EncodeToString([]byte(Large(x, c.s))); got != c.large {
			t.Errorf("Large of %d bytes = %s; want %s", len(c.s), got, c.large)
		}
	}
}

func TestHashesUseTheTablesThatArePassed(t *testing.T) {
	for _, x := range []api.Tables{tables.Make(), odd(), {}} {
		for _, wide := range []bool{false, true} {
			for _, n := range []int{0, 1, 55, 56, 63, 64, 65, 111, 112, 119, 120, 127, 128, 129, 239, 240, 300} {
				s := text(n)
				if hash(x, wide, s) != expected(x, wide, s) {
					t.Errorf("wide %t: another hash of %d bytes than the tables give", wide, n)
				}
			}
		}
	}
}

func TestHashesUseEachWordOfTheTables(t *testing.T) {
	x := tables.Make()
	small, large := Small(x, "abc"), Large(x, "abc")
	for i := range x.Small {
		y := x
		y.Small[i]++
		if Small(y, "abc") == small || Large(y, "abc") != large {
			t.Errorf("Small[%d] counts for Large, or not for Small", i)
		}
	}
	for i := range x.Large {
		y := x
		y.Large[i]++
		if Small(y, "abc") != small || Large(y, "abc") == large {
			t.Errorf("Large[%d] counts for Small, or not for Large", i)
		}
	}
	for i := range x.SmallStart {
		y := x
		y.SmallStart[i]++
		if Small(y, "abc") == small || Large(y, "abc") != large {
			t.Errorf("SmallStart[%d] counts for Large, or not for Small", i)
		}
		y = x
		y.LargeStart[i]++
		if Small(y, "abc") != small || Large(y, "abc") == large {
			t.Errorf("LargeStart[%d] counts for Small, or not for Large", i)
		}
	}
	y := x
	y.Rounds, y.Turns, y.Zetas = [24]uint64{}, [25]int{}, [256]int{}
	if Small(y, "abc") != small || Large(y, "abc") != large {
		t.Error("tables of other chapters count")
	}
}

// P3.3

func TestDigestIsSmallOfTheEncodedString(t *testing.T) {
	cases := []struct {
		n    int
		head string
	}{
		{0, "\x00"}, {1, "\x01\x01"}, {2, "\x01\x02"}, {57, "\x01\x39"}, {255, "\x01\xff"}, {256, "\x02\x01\x00"}, {300, "\x02\x01\x2c"},
		{api.MaxRecord, "\x02\xc3\x50"}, {api.MaxRecord + 1, "\x02\xc3\x51"}, {70000, "\x03\x01\x11\x70"},
	}
	for _, x := range []api.Tables{tables.Make(), odd()} {
		for _, c := range cases {
			s := text(c.n)
			if Digest(x, s) != expected(x, false, "sigil"+c.head+s) {
				t.Errorf("another Digest of %d bytes", c.n)
			}
		}
	}
	if got := hex.EncodeToString([]byte(Digest(tables.Make(), "ab"))); got != "b29b8b266e79964945d75974dcf67e2e9eca7b79cd89634fc776d6ef10d898eb" {
		t.Errorf("Digest of ab = %s", got)
	}
}

// P3.4

func TestBlocksCountsThoseOfThePaddedString(t *testing.T) {
	for _, w := range []word{words32, words64} {
		size := 2 * w.bits
		for n := range 700 {
			if got, want := Blocks(n, size), len(padding(w, text(n), n))/size; got != want {
				t.Errorf("Blocks(%d, %d) = %d; want %d", n, size, got, want)
			}
		}
	}
	cases := []struct{ n, block, want int }{
		{0, 64, 1}, {55, 64, 1}, {56, 64, 2}, {64, 64, 2}, {119, 64, 2}, {120, 64, 3},
		{0, 128, 1}, {111, 128, 1}, {112, 128, 2}, {128, 128, 2}, {239, 128, 2}, {240, 128, 3},
		{1<<31 - 1, 64, 1<<25 + 1}, {1<<31 - 1, 128, 1<<24 + 1},
		{api.MaxInt - 1, 64, 1<<44 + 1}, {api.MaxInt, 64, 1<<44 + 1}, {api.MaxInt, 128, 1<<43 + 1}, {api.MaxInt - 9, 64, 1 << 44}, {api.MaxInt - 17, 128, 1 << 43},
	}
	for _, c := range cases {
		if got := Blocks(c.n, c.block); got != c.want {
			t.Errorf("Blocks(%d, %d) = %d; want %d", c.n, c.block, got, c.want)
		}
	}
}

func TestBlocksOfWrongArgumentsAreNone(t *testing.T) {
	for _, n := range []int{-1, -64, math.MinInt, api.MaxInt + 1, math.MaxInt} {
		for _, block := range []int{64, 128} {
			if got := Blocks(n, block); got != 0 {
				t.Errorf("Blocks(%d, %d) = %d; want 0", n, block, got)
			}
		}
	}
	for _, block := range []int{0, 1, 32, 63, 65, 127, 129, 192, 256, -64, -128, math.MinInt, math.MaxInt} {
		for _, n := range []int{0, 3, 1000, -1} {
			if got := Blocks(n, block); got != 0 {
				t.Errorf("Blocks(%d, %d) = %d; want 0", n, block, got)
			}
		}
	}
}

// P3.5

func TestRightComparesTheRestWithTheTotal(t *testing.T) {
	longs := []int{math.MinInt, -1 << 50, -128, -64, -5, -1, 0, 1, 5, 63, 64, 65, 127, 128, 129, 191, 192, 1 << 40, 1<<40 + 70, api.MaxInt - 65, api.MaxInt - 64, api.MaxInt - 1, api.MaxInt, api.MaxInt + 1, api.MaxInt + 64, math.MaxInt - 63, math.MaxInt}
	for _, wide := range []bool{false, true} {
		block := 64
		if wide {
			block = 128
		}
		for _, long := range longs {
			for rest := range 2*block + 10 {
				h := api.Hasher{Wide: wide, Rest: text(rest), Long: long}
				want := long >= 0 && long <= 1125899906842624 && rest < block && (long-rest)%block == 0
				if got := Right(h); got != want {
					t.Errorf("Right, wide %t, of %d bytes with a rest of %d: %t", wide, long, rest, got)
				}
			}
		}
	}
}

func TestRightAcceptsAllWords(t *testing.T) {
	h := api.Hasher{Small: [8]uint32{math.MaxUint32, 1}, Large: [8]uint64{7, math.MaxUint64}, Rest: "abc", Long: 67}
	if !Right(h) {
		t.Error("a hasher is rejected for its words")
	}
	h.Wide = true
	if Right(h) {
		t.Error("a wide hasher with a rest of 3 of 67 bytes is accepted")
	}
}

func TestStartHasProcessedNothing(t *testing.T) {
	for _, x := range []api.Tables{tables.Make(), odd()} {
		if got, want := Start(x, false), (api.Hasher{Small: x.SmallStart}); got != want {
			t.Errorf("Start, not wide: %v", got)
		}
		if got, want := Start(x, true), (api.Hasher{Wide: true, Large: x.LargeStart}); got != want {
			t.Errorf("Start, wide: %v", got)
		}
	}
	x := tables.Make()
	if !Right(Start(x, false)) || !Right(Start(x, true)) {
		t.Error("a hasher that has processed nothing is not valid")
	}
}

// P3.6

func TestFeedReturnsTheWordsTheRestAndTheTotal(t *testing.T) {
	for _, x := range []api.Tables{tables.Make(), odd()} {
		for _, wide := range []bool{false, true} {
			w, table, start := parts(x, wide)
			size := 2 * w.bits
			for _, n := range []int{0, 1, 63, 64, 65, 127, 128, 129, 255, 256, 257, 1000} {
				s := text(n)
				h := fed(t, x, Start(x, wide), s)
				v, rest := start, s
				for ; len(rest) >= size; rest = rest[size:] {
					v = w.after(table, v, rest[:size])
				}
				got := words(h.Small)
				if wide {
					got = h.Large
				}
				if got != v || h.Rest != rest || h.Long != n || h.Wide != wide || !Right(h) {
					t.Errorf("wide %t, after %d bytes: %v", wide, n, h)
				}
				if wide && h.Small != [8]uint32{} || !wide && h.Large != [8]uint64{} {
					t.Errorf("wide %t, after %d bytes: the other words are %v, %v", wide, n, h.Small, h.Large)
				}
			}
		}
	}
}

func TestFeedLeavesTheOtherWords(t *testing.T) {
	x := tables.Make()
	h := api.Hasher{Small: [8]uint32{1, 2, 3}, Large: [8]uint64{4, 5, 6}}
	if after := fed(t, x, h, text(300)); after.Large != h.Large || after.Small == h.Small {
		t.Errorf("not wide: %v", after)
	}
	h.Wide = true
	if after := fed(t, x, h, text(300)); after.Small != h.Small || after.Large == h.Large {
		t.Errorf("wide: %v", after)
	}
}

// wrong are hashers that are not valid.
func wrong() []api.Hasher {
	return []api.Hasher{
		{Long: 3},
		{Long: -1},
		{Long: -64},
		{Long: -128, Wide: true},
		{Long: math.MinInt},
		{Long: math.MinInt, Wide: true},
		{Rest: "abc"},
		{Rest: "abc", Long: 2},
		{Rest: "abc", Long: 4},
		{Rest: "abc", Long: -61},
		{Rest: "abc", Long: 67, Wide: true},
		{Rest: text(64), Long: 64},
		{Rest: text(100), Long: 100},
		{Rest: text(128), Long: 128, Wide: true},
		{Rest: text(200), Long: 200, Wide: true},
		{Rest: text(1), Long: api.MaxInt + 1},
		{Long: api.MaxInt + 64},
		{Long: api.MaxInt + 128, Wide: true},
		{Rest: text(63), Long: math.MaxInt},
		{Rest: text(127), Long: math.MaxInt, Wide: true},
	}
}

func TestFeedRejectsHashersThatAreNotValid(t *testing.T) {
	x := tables.Make()
	for i, h := range wrong() {
		h.Small[1], h.Large[2] = 7, 8
		for _, s := range []string{"", "a", text(300)} {
			if after, e := Feed(x, h, s); e != api.ErrArg || after != h {
				t.Errorf("hasher %d with %d bytes: error %d, %v", i, len(s), e, after)
			}
		}
	}
}

func TestFeedRejectsTooManyBytes(t *testing.T) {
	x := tables.Make()
	for _, wide := range []bool{false, true} {
		full := api.Hasher{Wide: wide, Long: api.MaxInt, Small: [8]uint32{1}, Large: [8]uint64{2}}
		if after := fed(t, x, full, ""); after != full {
			t.Errorf("wide %t: nothing changes a full hasher: %v", wide, after)
		}
		for _, s := range []string{"a", text(64), text(128), text(300)} {
			if after, e := Feed(x, full, s); e != api.ErrLong || after != full {
				t.Errorf("wide %t: %d bytes after MaxInt: error %d, %v", wide, len(s), e, after)
			}
		}
		h := api.Hasher{Wide: wide, Long: api.MaxInt - 3, Rest: text(61)}
		if wide {
			h.Rest = text(125)
		}
		if after, e := Feed(x, h, "abcd"); e != api.ErrLong || after != h {
			t.Errorf("wide %t: four bytes after MaxInt - 3: error %d, %v", wide, e, after)
		}
		if after := fed(t, x, h, "abc"); after.Long != api.MaxInt || after.Rest != "" || !Right(after) {
			t.Errorf("wide %t: three bytes after MaxInt - 3: %v", wide, after)
		}
	}
}

// P3.7

func TestEndPadsWithTheTotal(t *testing.T) {
	x := odd()
	for _, wide := range []bool{false, true} {
		w, table, _ := parts(x, wide)
		size := 2 * w.bits
		for _, blocks := range []int{0, 1, 2, 3, 1 << 20, 1 << 25, 1<<32 + 1, api.MaxInt/size - 1} {
			for n := range size {
				h := api.Hasher{Wide: wide, Rest: text(n), Long: blocks*size + n}
				v := [8]uint64{5, 1 << 31, 1<<32 - 1, 0, 9}
				for i, n := range v {
					h.Small[i], h.Large[i] = uint32(n), n
				}
				if got, want := ended(t, x, h), w.hash(table, v, h.Rest, h.Long); got != want {
					t.Errorf("wide %t, after %d blocks and %d bytes: %x; want %x", wide, blocks, n, got, want)
				}
			}
		}
	}
}

func TestEndAfterMaxIntBytes(t *testing.T) {
	x := tables.Make()
	for _, wide := range []bool{false, true} {
		w, table, v := parts(x, wide)
		h := Start(x, wide)
		h.Long = api.MaxInt
		if got, want := ended(t, x, h), w.hash(table, v, "", api.MaxInt); got != want {
			t.Errorf("wide %t: %x; want %x", wide, got, want)
		}
	}
}

func TestEndRejectsHashersThatAreNotValid(t *testing.T) {
	x := tables.Make()
	for i, h := range wrong() {
		if s, e := End(x, h); s != "" || e != api.ErrArg {
			t.Errorf("hasher %d: %x, error %d", i, s, e)
		}
	}
}

// P3.8

func TestHashesAreThoseOfTheStandard(t *testing.T) {
	x := tables.Make()
	for _, wide := range []bool{false, true} {
		for n := range 600 {
			s := text(n)
			if hash(x, wide, s) != standard(wide, s) {
				t.Errorf("wide %t: another hash of %d bytes", wide, n)
			}
		}
		for _, s := range []string{strings.Repeat("\x00", 128), strings.Repeat("\xff", 300), "é\x80\x00", text(65536), text(100001)} {
			if hash(x, wide, s) != standard(wide, s) {
				t.Errorf("wide %t: another hash of %d bytes", wide, len(s))
			}
		}
	}
}

// P3.9

func TestPiecesMakeNoDifference(t *testing.T) {
	x := tables.Make()
	for _, wide := range []bool{false, true} {
		for _, n := range []int{0, 1, 64, 128, 200, 385} {
			s := text(n)
			whole, want := fed(t, x, Start(x, wide), s), standard(wide, s)
			for i := range n + 1 {
				for _, k := range []int{i, i + (n-i)/3, n} {
					h := fed(t, x, Start(x, wide), s[:i])
					h = fed(t, x, h, s[i:k])
					h = fed(t, x, h, s[k:])
					if h != whole || ended(t, x, h) != want {
						t.Errorf("wide %t: another hash of %d bytes in pieces up to %d and %d", wide, n, i, k)
					}
				}
			}
		}
	}
}

func TestSmallPiecesMakeNoDifference(t *testing.T) {
	x := tables.Make()
	s := text(1000)
	for _, wide := range []bool{false, true} {
		for step := 1; step < 300; step++ {
			h := Start(x, wide)
			for at := 0; at < len(s); at += step {
				h = fed(t, x, h, s[at:min(at+step, len(s))])
			}
			if ended(t, x, h) != standard(wide, s) {
				t.Errorf("wide %t: another hash in pieces of %d bytes", wide, step)
			}
		}
	}
}

func TestAHasherCanBeFedTwice(t *testing.T) {
	x := tables.Make()
	h := fed(t, x, Start(x, false), text(100))
	before := h
	a, b := fed(t, x, h, "a"), fed(t, x, h, strings.Repeat("b", 100))
	if h != before || ended(t, x, a) != standard(false, text(100)+"a") || ended(t, x, b) != standard(false, text(100)+strings.Repeat("b", 100)) {
		t.Error("a hasher was changed by Feed")
	}
}

// R3

func TestFeedDoesNotKeepTheString(t *testing.T) {
	x := tables.Make()
	for _, h := range []api.Hasher{Start(x, false), fed(t, x, Start(x, false), text(50))} {
		s := text(150)
		after := fed(t, x, h, s)
		from := uintptr(unsafe.Pointer(unsafe.StringData(s)))
		at := uintptr(unsafe.Pointer(unsafe.StringData(after.Rest)))
		if after.Rest == "" || at >= from && at < from+uintptr(len(s)) {
			t.Errorf("the rest, of %d bytes, is a part of what was fed", len(after.Rest))
		}
	}
	s := text(20)
	if after := fed(t, x, Start(x, true), s); unsafe.StringData(after.Rest) == unsafe.StringData(s) {
		t.Error("the rest is what was fed")
	}
}

// R4

func TestHashesAreAlwaysTheSame(t *testing.T) {
	x := tables.Make()
	for range 3 {
		if Small(x, "abc") != standard(false, "abc") || Large(x, "abc") != standard(true, "abc") || Digest(x, "abc") != standard(false, "sigil\x01\x03abc") {
			t.Error("another hash")
		}
	}
	if !tables.Right(x) {
		t.Error("the tables were changed")
	}
}

func BenchmarkSmall(b *testing.B) {
	x, s := tables.Make(), text(102)
	for b.Loop() {
		Small(x, s)
	}
}

func BenchmarkLarge(b *testing.B) {
	x, s := tables.Make(), text(182)
	for b.Loop() {
		Large(x, s)
	}
}
