package sponge

import (
	"crypto/sha3"
	"encoding/hex"
	"math"
	"strings"
	"testing"

	"sigil/api"
	"sigil/keccak"
	"sigil/tables"
)

// strangers are numbers that are no kind.
var strangers = []int{0, -1, -2, 5, 6, 11, 31, 72, 136, 168, 256, 257, 1 << 32, 1<<32 + 1, 1<<32 + 3, -(1 << 32) + 2, math.MinInt, math.MinInt + 1, math.MaxInt}

// text returns n bytes without a short period.
func text(n int) string {
	b := make([]byte, n)
	for i := range b {
		b[i] = byte(i*i*7 + i*101 + 3 + i/251)
	}
	return string(b)
}

// noise returns a state without a pattern.
func noise(n uint64) [25]uint64 {
	var a [25]uint64
	x := n*0x9e3779b97f4a7c15 + 0xd1b54a32d192ed03
	for i := range a {
		x ^= x << 13
		x ^= x >> 7
		x ^= x << 17
		a[i] = x
	}
	return a
}

// odd returns tables that are not those of chapter 2.
func odd() api.Tables {
	x := tables.Make()
	x.Rounds[23] ^= 0xff00000000000001
	x.Turns[7] = -5
	x.Turns[24] = 130
	return x
}

// all returns tables of several kinds.
func all() []api.Tables {
	return []api.Tables{tables.Make(), odd(), {}}
}

// offsets returns offsets of a rate that begin, are in, and end a lane.
func offsets(rate int) []int {
	return []int{0, 1, 7, 8, 9, 15, 16, 63, 64, 65, rate - 16, rate - 9, rate - 8, rate - 7, rate - 2, rate - 1}
}

// standard returns Go's own bytes of that kind, n of them, or all of a hash.
func standard(kind int, s string, n int) string {
	switch kind {
	case api.Shake128:
		return string(sha3.SumSHAKE128([]byte(s), n))
	case api.Shake256:
		return string(sha3.SumSHAKE256([]byte(s), n))
	case api.Sha3256:
		sum := sha3.Sum256([]byte(s))
		return string(sum[:])
	default:
		sum := sha3.Sum512([]byte(s))
		return string(sum[:])
	}
}

// wrongs are sponges that are not valid.
func wrongs() []api.Sponge {
	var all []api.Sponge
	for _, kind := range strangers {
		for _, at := range []int{0, 1, -1, 72, 136, 168} {
			all = append(all, api.Sponge{Kind: kind, Lanes: noise(1), At: at}, api.Sponge{Kind: kind, Lanes: noise(2), At: at, Out: true})
		}
	}
	for _, k := range kinds {
		for _, at := range []int{-1, -8, -200, math.MinInt, math.MinInt + 1, k.rate + 1, 200, 201, 1 << 32, math.MaxInt} {
			all = append(all, api.Sponge{Kind: k.kind, Lanes: noise(3), At: at}, api.Sponge{Kind: k.kind, Lanes: noise(4), At: at, Out: true})
		}
		all = append(all, api.Sponge{Kind: k.kind, Lanes: noise(5), At: k.rate})
	}
	return all
}

// P6.1

func TestNewHasAZeroState(t *testing.T) {
	for _, k := range kinds {
		if s, e := New(k.kind); s != (api.Sponge{Kind: k.kind}) || e != api.OK {
			t.Errorf("New(%d) = %v, %d; want a zero state", k.kind, s, e)
		}
	}
}

func TestNewRejectsWhatIsNoKind(t *testing.T) {
	for _, kind := range strangers {
		if s, e := New(kind); s != (api.Sponge{}) || e != api.ErrArg {
			t.Errorf("New(%d) = %v, %d; want ErrArg", kind, s, e)
		}
	}
}

// P6.2

func TestRightIsUpToTheRate(t *testing.T) {
	for _, k := range kinds {
		for at := -10; at < 300; at++ {
			for n := range uint64(2) {
				in := api.Sponge{Kind: k.kind, Lanes: noise(n), At: at}
				if got, want := Right(in), at >= 0 && at < k.rate; got != want {
					t.Errorf("Right of kind %d at %d = %t; want %t", k.kind, at, got, want)
				}
				out := api.Sponge{Kind: k.kind, Lanes: noise(n), At: at, Out: true}
				if got, want := Right(out), at >= 0 && at <= k.rate; got != want {
					t.Errorf("Right of kind %d at %d, squeezed = %t; want %t", k.kind, at, got, want)
				}
			}
		}
	}
}

func TestRightRejectsWhatIsNotValid(t *testing.T) {
	for _, s := range append(wrongs(), api.Sponge{}, api.Sponge{Out: true}) {
		if Right(s) {
			t.Errorf("Right of kind %d at %d, squeezed %t = true", s.Kind, s.At, s.Out)
		}
	}
}

// P6.3

func TestAbsorbMixesBytesIntoLanes(t *testing.T) {
	x := tables.Make()
	s := api.Sponge{Kind: api.Shake128, Lanes: [25]uint64{0xff, 1, 0x0100000000000000}, At: 0}
	got, e := Absorb(x, s, "\x01\x02\x03\x04\x05\x06\x07\x08\x09")
	want := api.Sponge{Kind: api.Shake128, Lanes: [25]uint64{0x08070605040302fe, 8, 0x0100000000000000}, At: 9}
	if got != want || e != api.OK {
		t.Errorf("Absorb of nine bytes = %v, %d; want %v", got, e, want)
	}
	got, e = Absorb(x, got, "\xaa\xbb\xcc\xdd\xee\xff\x11\x22\x33")
	want.Lanes[1], want.Lanes[2], want.At = 0x11ffeeddccbbaa08, 0x0100000000003322, 18
	if got != want || e != api.OK {
		t.Errorf("Absorb of nine bytes more = %v, %d; want %v", got, e, want)
	}
}

func TestAbsorbPermutesWhenTheRateIsReached(t *testing.T) {
	x := tables.Make()
	for _, k := range kinds {
		s := api.Sponge{Kind: k.kind, Lanes: noise(9), At: k.rate - 1}
		a := s.Lanes
		a[k.rate/8-1] ^= 0x5a << 56
		got, e := Absorb(x, s, "\x5a")
		if want := (api.Sponge{Kind: k.kind, Lanes: keccak.Permute(x, a)}); got != want || e != api.OK {
			t.Errorf("kind %d: Absorb of the last byte = %v, %d; want %v", k.kind, got, e, want)
		}
		first, _ := Absorb(x, api.Sponge{Kind: k.kind, Lanes: noise(9)}, strings.Repeat("\x00", k.rate-1))
		if want := (api.Sponge{Kind: k.kind, Lanes: noise(9), At: k.rate - 1}); first != want {
			t.Errorf("kind %d: Absorb of all bytes but one = %v; want %v", k.kind, first, want)
		}
	}
}

func TestAbsorbOfNothingChangesNothing(t *testing.T) {
	x := tables.Make()
	for _, k := range kinds {
		for at := range k.rate {
			s := api.Sponge{Kind: k.kind, Lanes: noise(uint64(at)), At: at}
			if got, e := Absorb(x, s, ""); got != s || e != api.OK {
				t.Errorf("kind %d at %d: Absorb of nothing = %v, %d; want %v", k.kind, at, got, e, s)
			}
		}
	}
}

func TestAbsorbByteByByte(t *testing.T) {
	for i, x := range all() {
		for _, k := range kinds {
			for _, at := range offsets(k.rate) {
				for _, n := range []int{1, 2, 7, 8, 9, 16, 17, k.rate - at, k.rate - at + 1, k.rate, k.rate + 9, 3*k.rate + 5} {
					s := api.Sponge{Kind: k.kind, Lanes: noise(uint64(at)), At: at}
					got, e := Absorb(x, s, text(n))
					if want := absorbed(x, k.rate, s, text(n)); got != want || e != api.OK {
						t.Fatalf("tables %d, kind %d at %d: Absorb of %d bytes = %v, %d; want %v", i, k.kind, at, n, got, e, want)
					}
				}
			}
		}
	}
}

func TestAbsorbErrors(t *testing.T) {
	x := tables.Make()
	for _, s := range wrongs() {
		for _, b := range []string{"", "a", text(400)} {
			if got, e := Absorb(x, s, b); got != s || e != api.ErrArg {
				t.Errorf("kind %d at %d, squeezed %t: Absorb of %d bytes: error %d, or another sponge; want ErrArg", s.Kind, s.At, s.Out, len(b), e)
			}
		}
	}
	for _, k := range kinds {
		for _, at := range []int{0, 1, k.rate - 1, k.rate} {
			for _, b := range []string{"", "a", text(400)} {
				s := api.Sponge{Kind: k.kind, Lanes: noise(7), At: at, Out: true}
				if got, e := Absorb(x, s, b); got != s || e != api.ErrState {
					t.Errorf("kind %d at %d: Absorb of %d bytes after output: error %d, or another sponge; want ErrState", k.kind, at, len(b), e)
				}
			}
		}
	}
}

// P6.4

func TestSqueezeOfNothingEndsTheInput(t *testing.T) {
	x := tables.Make()
	for _, k := range kinds {
		for at := range k.rate {
			s := api.Sponge{Kind: k.kind, Lanes: noise(uint64(at)), At: at}
			want := api.Sponge{Kind: k.kind, Lanes: s.Lanes, At: k.rate, Out: true}
			want.Lanes[at/8] ^= uint64(k.end) << (8 * (at % 8))
			want.Lanes[k.rate/8-1] ^= 128 << 56
			if got, b, e := Squeeze(x, s, 0); got != want || b != "" || e != api.OK {
				t.Errorf("kind %d at %d: Squeeze of nothing = %v, %q, %d; want %v", k.kind, at, got, b, e, want)
			}
			if again, b, e := Squeeze(x, want, 0); again != want || b != "" || e != api.OK {
				t.Errorf("kind %d at %d: Squeeze of nothing, again = %v, %q, %d; want %v", k.kind, at, again, b, e, want)
			}
		}
	}
}

func TestSqueezePermutesOnlyForTheNextByte(t *testing.T) {
	x := tables.Make()
	for _, k := range kinds {
		s := api.Sponge{Kind: k.kind, Lanes: noise(4), At: k.rate, Out: true}
		once := keccak.Permute(x, s.Lanes)
		twice := keccak.Permute(x, once)
		got, b, e := Squeeze(x, s, k.rate)
		if want := (api.Sponge{Kind: k.kind, Lanes: once, At: k.rate, Out: true}); got != want || len(b) != k.rate || e != api.OK {
			t.Errorf("kind %d: Squeeze of the rate = %v, %d bytes, %d; want %v", k.kind, got, len(b), e, want)
		}
		got, c, e := Squeeze(x, got, 1)
		if want := (api.Sponge{Kind: k.kind, Lanes: twice, At: 1, Out: true}); got != want || c != string([]byte{byte(twice[0])}) || e != api.OK {
			t.Errorf("kind %d: Squeeze of one byte more = %v, %x, %d; want %v", k.kind, got, c, e, want)
		}
	}
}

func TestSqueezeReadsTheBytesOfTheLanes(t *testing.T) {
	x := tables.Make()
	s := api.Sponge{Kind: api.Sha3512, Lanes: [25]uint64{0x0807060504030201, 0x100f0e0d0c0b0a09, 8: 0xf1f2f3f4f5f6f7f8, 9: 0xee}, At: 3, Out: true}
	cases := []struct {
		at, n int
		want  string
	}{{3, 7, "\x04\x05\x06\x07\x08\x09\x0a"}, {0, 3, "\x01\x02\x03"}, {8, 8, "\x09\x0a\x0b\x0c\x0d\x0e\x0f\x10"}, {64, 8, "\xf8\xf7\xf6\xf5\xf4\xf3\xf2\xf1"}, {71, 1, "\xf1"}, {7, 0, ""}}
	for _, c := range cases {
		s.At = c.at
		after := s
		after.At += c.n
		if got, b, e := Squeeze(x, s, c.n); got != after || b != c.want || e != api.OK {
			t.Errorf("Squeeze of %d bytes at %d = %v, %x, %d; want %x", c.n, c.at, got, b, e, c.want)
		}
	}
}

func TestSqueezeByteByByte(t *testing.T) {
	for i, x := range all() {
		for _, k := range kinds {
			for _, at := range append(offsets(k.rate), k.rate) {
				for _, out := range []bool{false, true} {
					if at == k.rate && !out {
						continue
					}
					for _, n := range []int{0, 1, 7, 8, 9, 17, k.rate - at, k.rate - at + 1, k.rate, k.rate + 9, 3*k.rate + 5} {
						s := api.Sponge{Kind: k.kind, Lanes: noise(uint64(at)), At: at, Out: out}
						got, b, e := Squeeze(x, s, n)
						want, c := squeezed(x, k.rate, k.end, s, n)
						if got != want || b != c || e != api.OK {
							t.Fatalf("tables %d, kind %d at %d, squeezed %t: Squeeze of %d bytes = %v, %x, %d; want %v, %x", i, k.kind, at, out, n, got, b, e, want, c)
						}
					}
				}
			}
		}
	}
}

func TestSqueezeOfTheMost(t *testing.T) {
	x := tables.Make()
	for _, k := range kinds {
		s := api.Sponge{Kind: k.kind, Lanes: noise(6), At: 5}
		got, b, e := Squeeze(x, s, api.MaxRecord)
		want, c := squeezed(x, k.rate, k.end, s, api.MaxRecord)
		if got != want || b != c || e != api.OK {
			t.Errorf("kind %d: Squeeze of the most = %v, %d bytes, %d; want %v", k.kind, got, len(b), e, want)
		}
	}
}

func TestSqueezeErrors(t *testing.T) {
	x := tables.Make()
	for _, s := range wrongs() {
		for _, n := range []int{0, 1, 400, -1, math.MaxInt} {
			if got, b, e := Squeeze(x, s, n); got != s || b != "" || e != api.ErrArg {
				t.Errorf("kind %d at %d, squeezed %t: Squeeze of %d bytes: %d bytes, error %d, or another sponge; want ErrArg", s.Kind, s.At, s.Out, n, len(b), e)
			}
		}
	}
	for _, k := range kinds {
		for _, out := range []bool{false, true} {
			for _, n := range []int{-1, -2, math.MinInt, math.MinInt + 1, api.MaxRecord + 1, 1 << 32, api.MaxInt, math.MaxInt} {
				s := api.Sponge{Kind: k.kind, Lanes: noise(7), At: 11, Out: out}
				if got, b, e := Squeeze(x, s, n); got != s || b != "" || e != api.ErrArg {
					t.Errorf("kind %d, squeezed %t: Squeeze of %d bytes: %d bytes, error %d, or another sponge; want ErrArg", k.kind, out, n, len(b), e)
				}
			}
		}
	}
}

// P6.5

func TestShakeOfTheStandard(t *testing.T) {
	x := tables.Make()
	cases := []struct {
		kind    int
		s, want string
	}{
		{api.Shake128, "", "7f9c2ba4e88f827d616045507605853ed73b8093f6efbc88eb1a6eacfa66ef26"},
		{api.Shake128, strings.Repeat("\xa3", 200), "131ab8d2b594946b9c81333f9bb6e0ce75c3b93104fa3469d3917457385da037"},
		{api.Shake256, "", "46b9dd2b0ba88d13233b3feb743eeb243fcd52ea62b81b82b50c27646ed5762fd75dc4ddd8c0f200cb05019d67b592f6fc821c49479ab48640292eacb3b7c4be"},
		{api.Shake256, strings.Repeat("\xa3", 200), "cd8a920ed141aa0407a22d59288652e9d9f1a7ee0c1e7c1ca699424da84a904d2d700caae7396ece96604440577da4f3aa22aeb8857f961c4cd8e06f0ae6610b"},
	}
	for _, c := range cases {
		got, e := Shake(x, c.kind, c.s, len(c.want)/2)
		if hex.EncodeToString([]byte(got)) != c.want || e != api.OK {
			t.Errorf("Shake of kind %d of %d bytes = %x, %d; want %s", c.kind, len(c.s), got, e, c.want)
		}
	}
}

func TestShakeIsThatOfGo(t *testing.T) {
	x := tables.Make()
	for _, kind := range []int{api.Shake128, api.Shake256} {
		for n := range 520 {
			if got, e := Shake(x, kind, text(n), n+1); got != standard(kind, text(n), n+1) || e != api.OK {
				t.Errorf("kind %d: another Shake of %d bytes, or error %d", kind, n, e)
			}
		}
		for _, n := range []int{0, 1, 135, 136, 137, 167, 168, 169, 336, 1008, api.MaxRecord - 1, api.MaxRecord} {
			for _, s := range []string{"", "\x00", "é\xff", text(70000)} {
				if got, e := Shake(x, kind, s, n); got != standard(kind, s, n) || e != api.OK {
					t.Errorf("kind %d: other %d bytes of Shake of %d bytes, or error %d", kind, n, len(s), e)
				}
			}
		}
	}
}

func TestShakeIsAbsorbAndSqueeze(t *testing.T) {
	for i, x := range all() {
		for _, kind := range []int{api.Shake128, api.Shake256} {
			for _, n := range []int{0, 1, 136, 168, 500} {
				s, _ := New(kind)
				s, _ = Absorb(x, s, text(n))
				_, want, _ := Squeeze(x, s, 2*n)
				if got, e := Shake(x, kind, text(n), 2*n); got != want || e != api.OK {
					t.Errorf("tables %d, kind %d: Shake of %d bytes = %x, %d; want %x", i, kind, n, got, e, want)
				}
			}
		}
	}
}

func TestShakeErrors(t *testing.T) {
	x := tables.Make()
	for _, kind := range append([]int{api.Sha3256, api.Sha3512}, strangers...) {
		for _, n := range []int{0, 32, 64, -1, math.MaxInt} {
			if got, e := Shake(x, kind, "abc", n); got != "" || e != api.ErrArg {
				t.Errorf("Shake of kind %d, %d bytes = %x, %d; want ErrArg", kind, n, got, e)
			}
		}
	}
	for _, kind := range []int{api.Shake128, api.Shake256} {
		for _, n := range []int{-1, math.MinInt, api.MaxRecord + 1, 1 << 32, math.MaxInt} {
			if got, e := Shake(x, kind, "abc", n); got != "" || e != api.ErrArg {
				t.Errorf("Shake of kind %d, %d bytes = %x, %d; want ErrArg", kind, n, got, e)
			}
		}
	}
}

// P6.6

func TestSha3OfTheStandard(t *testing.T) {
	x := tables.Make()
	cases := []struct {
		kind    int
		s, want string
	}{
		{api.Sha3256, "", "a7ffc6f8bf1ed76651c14756a061d662f580ff4de43b49fa82d80a4b80f8434a"},
		{api.Sha3256, "abc", "3a985da74fe225b2045c172d6bd390bd855f086e3e9d525b46bfe24511431532"},
		{api.Sha3256, strings.Repeat("\xa3", 200), "79f38adec5c20307a98ef76e8324afbfd46cfd81b22e3973c65fa1bd9de31787"},
		{api.Sha3512, "", "a69f73cca23a9ac5c8b567dc185a756e97c982164fe25859e0d1dcc1475c80a615b2123af1f5f94c11e3e9402c3ac558f500199d95b6d3e301758586281dcd26"},
		{api.Sha3512, "abc", "b751850b1a57168a5693cd924b6b096e08f621827444f70d884f5d0240d2712e10e116e9192af3c91a7ec57647e3934057340b4cf408d5a56592f8274eec53f0"},
		{api.Sha3512, strings.Repeat("\xa3", 200), "e76dfad22084a8b1467fcf2ffa58361bec7628edf5f3fdc0e4805dc48caeeca81b7c13c30adf52a3659584739a2df46be589c51ca1a4a8416df6545a1ce8ba00"},
	}
	for _, c := range cases {
		got, e := Sha3(x, c.kind, c.s)
		if hex.EncodeToString([]byte(got)) != c.want || e != api.OK {
			t.Errorf("Sha3 of kind %d of %d bytes = %x, %d; want %s", c.kind, len(c.s), got, e, c.want)
		}
	}
}

func TestSha3IsThatOfGo(t *testing.T) {
	x := tables.Make()
	for _, k := range kinds {
		if k.size == 0 {
			continue
		}
		for n := range 520 {
			if got, e := Sha3(x, k.kind, text(n)); got != standard(k.kind, text(n), 0) || len(got) != k.size || e != api.OK {
				t.Errorf("kind %d: another Sha3 of %d bytes, or error %d", k.kind, n, e)
			}
		}
		for _, s := range []string{"\x00", "é\xff", text(70000)} {
			if got, e := Sha3(x, k.kind, s); got != standard(k.kind, s, 0) || e != api.OK {
				t.Errorf("kind %d: another Sha3 of %d bytes, or error %d", k.kind, len(s), e)
			}
		}
	}
}

func TestSha3IsAbsorbAndSqueeze(t *testing.T) {
	for i, x := range all() {
		for _, k := range kinds {
			if k.size == 0 {
				continue
			}
			for _, n := range []int{0, 1, 72, 136, 500} {
				s, _ := New(k.kind)
				s, _ = Absorb(x, s, text(n))
				_, want, _ := Squeeze(x, s, k.size)
				if got, e := Sha3(x, k.kind, text(n)); got != want || e != api.OK {
					t.Errorf("tables %d, kind %d: Sha3 of %d bytes = %x, %d; want %x", i, k.kind, n, got, e, want)
				}
			}
		}
	}
}

func TestSha3Errors(t *testing.T) {
	x := tables.Make()
	for _, kind := range append([]int{api.Shake128, api.Shake256}, strangers...) {
		for _, s := range []string{"", "abc", text(400)} {
			if got, e := Sha3(x, kind, s); got != "" || e != api.ErrArg {
				t.Errorf("Sha3 of kind %d of %d bytes = %x, %d; want ErrArg", kind, len(s), got, e)
			}
		}
	}
}

// P6.7

// pieces are lengths into which input and output are divided, again and again.
var pieces = [][]int{{1}, {7}, {8}, {0, 3, 0, 8, 1}, {64, 5}, {71, 1}, {72}, {73}, {135, 1}, {136}, {137}, {167}, {168}, {169, 0}, {400, 2}}

// divided returns the parts of n bytes whose lengths are those of a piece after another.
func divided(n int, lengths []int) []int {
	var parts []int
	for i := 0; n > 0; i++ {
		part := min(n, lengths[i%len(lengths)])
		parts = append(parts, part)
		n -= part
	}
	return parts
}

func TestPiecesOfInputMakeNoDifference(t *testing.T) {
	x := tables.Make()
	for _, k := range kinds {
		for _, n := range []int{0, 1, k.rate - 1, k.rate, k.rate + 1, 1000} {
			start, _ := New(k.kind)
			want, _ := Absorb(x, start, text(n))
			for _, lengths := range pieces {
				s, at := start, 0
				for _, part := range divided(n, lengths) {
					var e api.Errno
					if s, e = Absorb(x, s, text(n)[at:at+part]); e != api.OK {
						t.Fatalf("kind %d: Absorb: error %d", k.kind, e)
					}
					at += part
				}
				if s != want {
					t.Errorf("kind %d: %d bytes in pieces of %v: %v; want %v", k.kind, n, lengths, s, want)
				}
			}
		}
	}
}

func TestPiecesOfOutputMakeNoDifference(t *testing.T) {
	x := tables.Make()
	for _, k := range kinds {
		for _, n := range []int{0, 1, k.rate - 1, k.rate, k.rate + 1, 1000} {
			start, _ := New(k.kind)
			start, _ = Absorb(x, start, "a seed")
			whole, want, _ := Squeeze(x, start, n)
			for _, lengths := range pieces {
				// A first piece without bytes ends the input even where n is 0.
				s, _, _ := Squeeze(x, start, 0)
				var b strings.Builder
				for _, part := range divided(n, lengths) {
					var c string
					var e api.Errno
					if s, c, e = Squeeze(x, s, part); e != api.OK || len(c) != part {
						t.Fatalf("kind %d: Squeeze of %d bytes: %d bytes, error %d", k.kind, part, len(c), e)
					}
					b.WriteString(c)
				}
				if s != whole || b.String() != want {
					t.Errorf("kind %d: %d bytes in pieces of %v: %v, %x; want %v, %x", k.kind, n, lengths, s, b.String(), whole, want)
				}
			}
		}
	}
}

// P6.8

func TestAValidSpongeRemainsValid(t *testing.T) {
	x := tables.Make()
	for _, k := range kinds {
		for at := range k.rate + 1 {
			for _, out := range []bool{false, true} {
				s := api.Sponge{Kind: k.kind, Lanes: noise(uint64(at)), At: at, Out: out}
				if !Right(s) {
					continue
				}
				for _, n := range []int{0, 1, k.rate - at, k.rate, k.rate + 1} {
					fed, _ := Absorb(x, s, text(n))
					read, _, _ := Squeeze(x, s, n)
					more, _, _ := Squeeze(x, fed, n)
					late, _ := Absorb(x, read, text(n))
					wrong, _, _ := Squeeze(x, s, -1)
					for i, after := range []api.Sponge{fed, read, more, late, wrong} {
						if !Right(after) || after.Kind != k.kind {
							t.Errorf("kind %d at %d, squeezed %t, %d bytes: the sponge %d is at %d and not valid", k.kind, at, out, n, i, after.At)
						}
					}
				}
			}
		}
	}
	for _, k := range kinds {
		if s, _ := New(k.kind); !Right(s) {
			t.Errorf("a new sponge of kind %d is not valid", k.kind)
		}
	}
}

// R3, R4

func TestACallChangesNothingOfAnother(t *testing.T) {
	x := odd()
	s, _ := New(api.Shake256)
	s, _ = Absorb(x, s, text(50))
	before := s
	first, a, _ := Squeeze(x, s, 300)
	fed, _ := Absorb(x, s, text(300))
	second, b, _ := Squeeze(x, s, 300)
	again, _ := Absorb(x, s, text(300))
	if first != second || a != b || fed != again {
		t.Error("the same call returns something else")
	}
	if s != before || x != odd() {
		t.Error("an argument was changed")
	}
}

func BenchmarkShakeShort(b *testing.B) {
	x, s := tables.Make(), text(80)
	for b.Loop() {
		Shake(x, api.Shake256, s, 16)
	}
}

func BenchmarkShakeLong(b *testing.B) {
	x, s := tables.Make(), text(16800)
	for b.Loop() {
		Shake(x, api.Shake128, s, 16800)
	}
}
