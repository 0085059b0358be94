package keccak

import (
	"crypto/sha3"
	"encoding/binary"
	"math"
	"testing"

	"sigil/api"
	"sigil/tables"
)

// noise returns a state that depends on n.
func noise(n uint64) [25]uint64 {
	var a [25]uint64
	for i := range a {
		n += 0x9e3779b97f4a7c15
		x := (n ^ n>>30) * 0xbf58476d1ce4e5b9
		x = (x ^ x>>27) * 0x94d049bb133111eb
		a[i] = x ^ x>>31
	}
	return a
}

// bit returns the state with only the bit n set.
func bit(n int) [25]uint64 {
	var a [25]uint64
	a[n/64] = 1 << (n % 64)
	return a
}

// states returns states of several kinds, each one of a single bit among them.
func states() [][25]uint64 {
	full := [25]uint64{}
	for i := range full {
		full[i] = math.MaxUint64
	}
	all := [][25]uint64{{}, full}
	for n := range 1600 {
		all = append(all, bit(n))
	}
	for n := range uint64(200) {
		all = append(all, noise(n))
	}
	return all
}

// odd returns tables that are not those of chapter 2, with rotations by negative numbers, and by more than 64.
func odd() api.Tables {
	x := tables.Make()
	for i := range x.Turns {
		x.Turns[i] = i*29 - 300
	}
	x.Turns[0], x.Turns[1], x.Turns[2], x.Turns[3] = -1, 64, math.MinInt, math.MaxInt
	x.Turns[21], x.Turns[22], x.Turns[23], x.Turns[24] = 1<<32+3, -64, 63, -(1<<40)-5
	for i := range x.Rounds {
		x.Rounds[i] = 0xf0e1d2c3b4a59687 * uint64(i+1)
	}
	return x
}

// all returns tables of several kinds.
func all() []api.Tables {
	return []api.Tables{tables.Make(), odd(), {}}
}

// added returns the exclusive or of a and b.
func added(a, b [25]uint64) [25]uint64 {
	for i := range a {
		a[i] ^= b[i]
	}
	return a
}

// P5.1

func TestMixOfOneLane(t *testing.T) {
	// The lane at 2, 1 has the bits 0 and 63: column 3 takes it as it is, column 1 rotated by 1.
	a := [25]uint64{7: 1<<63 | 1}
	want := [25]uint64{7: 1<<63 | 1}
	for y := range 5 {
		want[3+5*y] = 1<<63 | 1
		want[1+5*y] = 3
	}
	if got := Mix(a); got != want {
		t.Errorf("Mix(%x) = %x; want %x", a, got, want)
	}
}

func TestMixWrapsAround(t *testing.T) {
	first := [25]uint64{0: 5}
	want := [25]uint64{0: 5}
	for y := range 5 {
		want[1+5*y] = 5
		want[4+5*y] = 10
	}
	if got := Mix(first); got != want {
		t.Errorf("Mix(%x) = %x; want %x", first, got, want)
	}
	last := [25]uint64{24: 5}
	want = [25]uint64{24: 5}
	for y := range 5 {
		want[5*y] = 5
		want[3+5*y] = 10
	}
	if got := Mix(last); got != want {
		t.Errorf("Mix(%x) = %x; want %x", last, got, want)
	}
}

func TestMixOfAnEvenColumnChangesNothing(t *testing.T) {
	a := [25]uint64{2: 9, 17: 9, 5: 1, 10: 2, 15: 3}
	if got := Mix(a); got != a {
		t.Errorf("Mix(%x) = %x; want the same", a, got)
	}
}

func TestMixBitByBit(t *testing.T) {
	for _, a := range states() {
		if got, want := Mix(a), mixed(a); got != want {
			t.Fatalf("Mix(%x) = %x; want %x", a, got, want)
		}
	}
}

// P5.2

func TestTurnPlacesEachLane(t *testing.T) {
	want := [25]int{
		0, 10, 20, 5, 15,
		16, 1, 11, 21, 6,
		7, 17, 2, 12, 22,
		23, 8, 18, 3, 13,
		14, 24, 9, 19, 4,
	}
	for x := range 5 {
		for y := range 5 {
			from, to := x+5*y, y+5*((2*x+3*y)%5)
			if to != want[from] {
				t.Errorf("the lane %d is expected at %d; want %d", from, to, want[from])
			}
			var a, moved [25]uint64
			a[from], moved[to] = 0x8123456789abcdef, 0x8123456789abcdef
			if got := Turn(api.Tables{}, a); got != moved {
				t.Errorf("Turn of the lane %d without a rotation = %x; want it at %d", from, got, to)
			}
		}
	}
}

func TestTurnRotatesByTheAmountOfTheOldPlace(t *testing.T) {
	x := tables.Make()
	cases := []struct {
		from, to    int
		lane, moved uint64
	}{
		{0, 0, 0x8000000000000001, 0x8000000000000001},
		{1, 10, 1, 2},
		{1, 10, 0x8000000000000000, 1},
		{2, 20, 1, 1 << 62},
		{2, 20, 0x10, 4},
		{6, 1, 1, 1 << 44},
		{24, 4, 1, 1 << 14},
		{24, 4, 1 << 63, 1 << 13},
	}
	for _, c := range cases {
		var a, want [25]uint64
		a[c.from], want[c.to] = c.lane, c.moved
		if got := Turn(x, a); got != want {
			t.Errorf("Turn of %x at %d = %x; want %x at %d", c.lane, c.from, got, c.moved, c.to)
		}
	}
}

func TestTurnIsModulo64(t *testing.T) {
	cases := []struct {
		amount int
		want   uint64
	}{
		{0, 1}, {1, 2}, {63, 1 << 63}, {64, 1}, {65, 2}, {127, 1 << 63}, {128, 1}, {1<<32 + 7, 1 << 7},
		{-1, 1 << 63}, {-63, 2}, {-64, 1}, {-65, 1 << 63}, {-130, 1 << 62}, {-(1 << 40) - 5, 1 << 59},
		{api.MaxInt, 1}, {math.MaxInt, 1 << 63}, {math.MaxInt - 1, 1 << 62}, {math.MinInt, 1}, {math.MinInt + 1, 2},
	}
	for _, c := range cases {
		for from := range 25 {
			var x api.Tables
			x.Turns[from] = c.amount
			var a [25]uint64
			a[from] = 1
			to := from/5 + 5*((2*(from%5)+3*(from/5))%5)
			if got := Turn(x, a)[to]; got != c.want {
				t.Errorf("Turn by %d of a 1 at %d has %x at %d; want %x", c.amount, from, got, to, c.want)
			}
		}
	}
}

func TestTurnBitByBit(t *testing.T) {
	for i, x := range all() {
		for _, a := range states() {
			if got, want := Turn(x, a), turned(x.Turns, a); got != want {
				t.Fatalf("tables %d: Turn(%x) = %x; want %x", i, a, got, want)
			}
		}
	}
}

func TestTurnUsesOnlyTheTurns(t *testing.T) {
	x := odd()
	a := noise(1)
	if got, want := Turn(x, a), Turn(api.Tables{Turns: x.Turns}, a); got != want {
		t.Errorf("Turn = %x; with other numbers in the other tables %x", got, want)
	}
}

// P5.3

func TestBendOfOneRow(t *testing.T) {
	cases := []struct{ row, want [5]uint64 }{
		{[5]uint64{0, 0, 0, 0, 0}, [5]uint64{0, 0, 0, 0, 0}},
		{[5]uint64{1, 0, 0, 0, 0}, [5]uint64{1, 0, 0, 1, 0}},
		{[5]uint64{0, 1, 0, 0, 0}, [5]uint64{0, 1, 0, 0, 1}},
		{[5]uint64{0, 0, 1, 0, 0}, [5]uint64{1, 0, 1, 0, 0}},
		{[5]uint64{0, 0, 0, 1, 0}, [5]uint64{0, 1, 0, 1, 0}},
		{[5]uint64{0, 0, 0, 0, 1}, [5]uint64{0, 0, 1, 0, 1}},
		{[5]uint64{0, 6, 4, 0, 0}, [5]uint64{0, 6, 4, 0, 6}},
		{[5]uint64{7, 7, 7, 7, 7}, [5]uint64{7, 7, 7, 7, 7}},
	}
	for _, c := range cases {
		for y := range 5 {
			var a, want [25]uint64
			copy(a[5*y:], c.row[:])
			copy(want[5*y:], c.want[:])
			if got := Bend(a); got != want {
				t.Errorf("Bend of the row %d %x = %x; want %x", y, c.row, got, want)
			}
		}
	}
}

func TestBendBitByBit(t *testing.T) {
	for _, a := range states() {
		if got, want := Bend(a), bent(a); got != want {
			t.Fatalf("Bend(%x) = %x; want %x", a, got, want)
		}
	}
}

// P5.4

func TestStepOfTheZeroStateIsTheNumberOfTheRound(t *testing.T) {
	for i, x := range all() {
		for round, number := range x.Rounds {
			if got, want := Step(x, [25]uint64{}, round), ([25]uint64{number}); got != want {
				t.Errorf("tables %d: Step of the zero state, round %d = %x; want %x", i, round, got, want)
			}
		}
	}
}

func TestStepWithoutARoundAddsNothing(t *testing.T) {
	for i, x := range all() {
		for _, round := range []int{-1, -2, -24, 24, 25, 48, 64, 255, 256, 1 << 32, -(1 << 32), math.MinInt, math.MaxInt} {
			for n := range uint64(3) {
				a := noise(n)
				if got, want := Step(x, a, round), stepped(x.Turns, 0, a); got != want {
					t.Errorf("tables %d: Step of round %d = %x; want %x", i, round, got, want)
				}
			}
			if got := Step(x, [25]uint64{}, round); got != ([25]uint64{}) {
				t.Errorf("tables %d: Step of the zero state, round %d = %x; want zeros", i, round, got)
			}
		}
	}
}

func TestStepAppliesMixTurnAndBend(t *testing.T) {
	for i, x := range all() {
		for n, a := range states() {
			round := n % 24
			want := Bend(Turn(x, Mix(a)))
			want[0] ^= x.Rounds[round]
			if got := Step(x, a, round); got != want {
				t.Fatalf("tables %d: Step(%x, round %d) = %x; want %x", i, a, round, got, want)
			}
		}
	}
}

// P5.5

// zeroOnce is the state after one permutation of the zero state, and zeroTwice after two: those that Keccak's authors published.
var zeroOnce = [25]uint64{
	0xf1258f7940e1dde7, 0x84d5ccf933c0478a, 0xd598261ea65aa9ee, 0xbd1547306f80494d, 0x8b284e056253d057,
	0xff97a42d7f8e6fd4, 0x90fee5a0a44647c4, 0x8c5bda0cd6192e76, 0xad30a6f71b19059c, 0x30935ab7d08ffc64,
	0xeb5aa93f2317d635, 0xa9a6e6260d712103, 0x81a57c16dbcf555f, 0x43b831cd0347c826, 0x01f22f1a11a5569f,
	0x05e5635a21d9ae61, 0x64befef28cc970f2, 0x613670957bc46611, 0xb87c5a554fd00ecb, 0x8c3ee88a1ccf32c8,
	0x940c7922ae3a2614, 0x1841f924a2c509e4, 0x16f53526e70465c2, 0x75f644e97f30a13b, 0xeaf1ff7b5ceca249,
}

var zeroTwice = [25]uint64{
	0x2d5c954df96ecb3c, 0x6a332cd07057b56d, 0x093d8d1270d76b6c, 0x8a20d9b25569d094, 0x4f9c4f99e5e7f156,
	0xf957b9a2da65fb38, 0x85773dae1275af0d, 0xfaf4f247c3d810f7, 0x1f1b9ee6f79a8759, 0xe4fecc0fee98b425,
	0x68ce61b6b9ce68a1, 0xdeea66c4ba8f974f, 0x33c43d836eafb1f5, 0xe00654042719dbd9, 0x7cf8a9f009831265,
	0xfd5449a6bf174743, 0x97ddad33d8994b40, 0x48ead5fc5d0be774, 0xe3b8c8ee55b7b03c, 0x91a0226e649e42e9,
	0x900e3129e7badd7b, 0x202a9ec5faa3cce8, 0x5b3402464e1c3db6, 0x609f4e62a44c1059, 0x20d06cd26a8fbf5c,
}

func TestPermuteOfTheZeroState(t *testing.T) {
	x := tables.Make()
	once := Permute(x, [25]uint64{})
	if once != zeroOnce {
		t.Errorf("Permute of the zero state = %x; want %x", once, zeroOnce)
	}
	if twice := Permute(x, once); twice != zeroTwice {
		t.Errorf("Permute, twice, of the zero state = %x; want %x", twice, zeroTwice)
	}
}

func TestPermuteAppliesAllSteps(t *testing.T) {
	for i, x := range all() {
		for n := range uint64(50) {
			a := noise(n)
			want := a
			for round := range 24 {
				want = Step(x, want, round)
			}
			if got := Permute(x, a); got != want {
				t.Fatalf("tables %d: Permute(%x) = %x; want %x", i, a, got, want)
			}
		}
	}
}

func TestPermuteBitByBit(t *testing.T) {
	for i, x := range all() {
		for n := range uint64(20) {
			a := noise(n)
			want := a
			for _, number := range x.Rounds {
				want = stepped(x.Turns, number, want)
			}
			if got := Permute(x, a); got != want {
				t.Fatalf("tables %d: Permute(%x) = %x; want %x", i, a, got, want)
			}
		}
	}
}

// shaken returns n bytes of SHAKE128 of s, by means of Permute.
func shaken(x api.Tables, s []byte, n int) string {
	const rate = 168
	padded := append([]byte{}, s...)
	padded = append(padded, 31)
	for len(padded)%rate != 0 {
		padded = append(padded, 0)
	}
	padded[len(padded)-1] ^= 128
	var a [25]uint64
	for ; len(padded) > 0; padded = padded[rate:] {
		for i := range rate / 8 {
			a[i] ^= binary.LittleEndian.Uint64(padded[8*i:])
		}
		a = Permute(x, a)
	}
	var b []byte
	for ; len(b) < n; a = Permute(x, a) {
		for _, lane := range a[:rate/8] {
			b = binary.LittleEndian.AppendUint64(b, lane)
		}
	}
	return string(b[:n])
}

func TestPermuteIsThatOfGoShake(t *testing.T) {
	x := tables.Make()
	s := []byte("a message of several blocks, whose bytes are numbers: ")
	for i := range 700 {
		s = append(s, byte(i*i))
	}
	for _, n := range []int{0, 1, 54, 166, 167, 168, 169, 335, 336, len(s)} {
		if got, want := shaken(x, s[:n], 1000), string(sha3.SumSHAKE128(s[:n], 1000)); got != want {
			t.Errorf("SHAKE128 of %d bytes = %x; want %x", n, got, want)
		}
	}
}

// P5.6

func TestMixAndTurnPreserveExclusiveOr(t *testing.T) {
	for i, x := range all() {
		for n := range uint64(200) {
			a, b := noise(n), noise(n+1000)
			if got, want := Mix(added(a, b)), added(Mix(a), Mix(b)); got != want {
				t.Fatalf("Mix of an exclusive or = %x; want %x", got, want)
			}
			if got, want := Turn(x, added(a, b)), added(Turn(x, a), Turn(x, b)); got != want {
				t.Fatalf("tables %d: Turn of an exclusive or = %x; want %x", i, got, want)
			}
		}
		if got := Turn(x, [25]uint64{}); got != ([25]uint64{}) {
			t.Errorf("tables %d: Turn of the zero state = %x", i, got)
		}
	}
	if got := Mix([25]uint64{}); got != ([25]uint64{}) {
		t.Errorf("Mix of the zero state = %x", got)
	}
}

// P5.7

// Turn preserves exclusive or, and so no two states have the same one if each single bit is moved to a place of its own.
func TestNoTwoStatesHaveTheSameTurn(t *testing.T) {
	for i, x := range all() {
		seen := map[[25]uint64]int{}
		for n := range 1600 {
			got := Turn(x, bit(n))
			ones := 0
			for z := range 1600 {
				ones += int(got[z/64] >> (z % 64) & 1)
			}
			if ones != 1 {
				t.Errorf("tables %d: Turn of the bit %d has %d bits; want 1", i, n, ones)
			}
			if k, there := seen[got]; there {
				t.Errorf("tables %d: Turn of the bits %d and %d is the same", i, k, n)
			}
			seen[got] = n
		}
	}
}

func TestTurnCanBeUndone(t *testing.T) {
	for i, x := range all() {
		for n := range uint64(100) {
			a := noise(n)
			got := Turn(x, a)
			var back [25]uint64
			for from := range back {
				lane := got[from/5+5*((2*(from%5)+3*(from/5))%5)]
				amount := uint(x.Turns[from]) % 64
				back[from] = lane>>amount | lane<<(64-amount)
			}
			if back != a {
				t.Fatalf("tables %d: Turn(%x), undone, is %x", i, a, back)
			}
		}
	}
}

// R3, R4

func TestACallChangesNothingOfAnother(t *testing.T) {
	x, a := odd(), noise(3)
	first := [][25]uint64{Mix(a), Turn(x, a), Bend(a), Step(x, a, 5), Permute(x, a)}
	second := [][25]uint64{Mix(a), Turn(x, a), Bend(a), Step(x, a, 5), Permute(x, a)}
	for i := range first {
		if first[i] != second[i] {
			t.Errorf("call %d returns %x, and then %x", i, first[i], second[i])
		}
	}
	if x != odd() || a != noise(3) {
		t.Error("an argument was changed")
	}
}

func BenchmarkPermute(b *testing.B) {
	x := tables.Make()
	var a [25]uint64
	for b.Loop() {
		a = Permute(x, a)
	}
}
