package octets

import (
	"math"
	"strings"
	"testing"
	"unsafe"

	"sigil/api"
)

// ints are numbers with their bytes, written out by hand: around each change of the number of bytes.
var ints = []struct {
	n     int
	bytes string
}{
	{0, "\x00"},
	{1, "\x01\x01"},
	{7, "\x01\x07"},
	{127, "\x01\x7f"},
	{128, "\x01\x80"},
	{255, "\x01\xff"},
	{256, "\x02\x01\x00"},
	{300, "\x02\x01\x2c"},
	{1<<16 - 1, "\x02\xff\xff"},
	{1 << 16, "\x03\x01\x00\x00"},
	{1<<24 - 1, "\x03\xff\xff\xff"},
	{1 << 24, "\x04\x01\x00\x00\x00"},
	{1<<32 - 1, "\x04\xff\xff\xff\xff"},
	{1 << 32, "\x05\x01\x00\x00\x00\x00"},
	{0x0102030405, "\x05\x01\x02\x03\x04\x05"},
	{1<<40 - 1, "\x05\xff\xff\xff\xff\xff"},
	{1 << 40, "\x06\x01\x00\x00\x00\x00\x00"},
	{1<<48 - 1, "\x06\xff\xff\xff\xff\xff\xff"},
	{1 << 48, "\x07\x01\x00\x00\x00\x00\x00\x00"},
	{1<<50 - 1, "\x07\x03\xff\xff\xff\xff\xff\xff"},
	{1125899906842624, "\x07\x04\x00\x00\x00\x00\x00\x00"},
}

// texts are strings of several lengths and contents, with the bytes that stand before them.
func texts() map[string]string {
	return map[string]string{
		"":                            "\x00",
		"a":                           "\x01\x01",
		"ab":                          "\x01\x02",
		"\x00":                        "\x01\x01",
		"\x00\xff\x80":                "\x01\x03",
		"é":                           "\x01\x02",
		strings.Repeat("x", 255):      "\x01\xff",
		strings.Repeat("x", 256):      "\x02\x01\x00",
		strings.Repeat("\xfe", 70000): "\x03\x01\x11\x70",
	}
}

// P1.1

func TestIntWritesAsFewBytesAsPossible(t *testing.T) {
	for _, c := range ints {
		got, e := Int(c.n)
		if got != c.bytes || e != api.OK {
			t.Errorf("Int(%d) = %q, %d; want %q", c.n, got, e, c.bytes)
		}
	}
}

func TestIntRejectsWhatIsOver(t *testing.T) {
	for _, n := range []int{-1, -2, -256, math.MinInt, math.MinInt + 1, api.MaxInt + 1, 1 << 51, 1 << 56, math.MaxInt} {
		if got, e := Int(n); got != "" || e != api.ErrOver {
			t.Errorf("Int(%d) = %q, %d; want ErrOver", n, got, e)
		}
	}
}

// P1.2

func TestReadIntReadsAtAnyOffset(t *testing.T) {
	for _, c := range ints {
		for _, before := range []string{"", "\xff", "\x00\x07\x02"} {
			for _, after := range []string{"", "\x00", "\xff\xff\xff\xff\xff\xff\xff\xff\xff"} {
				n, to, e := ReadInt(before+c.bytes+after, len(before))
				if n != c.n || to != len(before)+len(c.bytes) || e != api.OK {
					t.Errorf("ReadInt of %q after %q, before %q = %d, %d, %d; want %d", c.bytes, before, after, n, to, e, c.n)
				}
			}
		}
	}
}

func TestReadIntErrors(t *testing.T) {
	cases := []struct {
		what string
		s    string
		at   int
		want api.Errno
	}{
		{"an offset below 0", "\x00", -1, api.ErrArg},
		{"the least offset", "\x00", math.MinInt, api.ErrArg},
		{"an offset after the end", "\x00", 2, api.ErrArg},
		{"the greatest offset", "\x00", math.MaxInt, api.ErrArg},
		{"an offset after the end of nothing", "", 1, api.ErrArg},
		{"nothing", "", 0, api.ErrShort},
		{"the offset of the end", "\x01\x05", 2, api.ErrShort},
		{"eight bytes", "\x08\x01\x01\x01\x01\x01\x01\x01\x01", 0, api.ErrForm},
		{"255 bytes", "\xff", 0, api.ErrForm},
		{"eight bytes of which none is there: the form comes first", "\x08", 0, api.ErrForm},
		{"a byte that is missing", "\x01", 0, api.ErrShort},
		{"a last byte that is missing", "\x03ab", 0, api.ErrShort},
		{"a last byte that is missing, at an offset", "zz\x07abcdef", 2, api.ErrShort},
		{"a leading zero byte and a missing byte: the length comes first", "\x02\x00", 0, api.ErrShort},
		{"a zero of one byte", "\x01\x00", 0, api.ErrForm},
		{"a leading zero byte", "\x02\x00\x05", 0, api.ErrForm},
		{"a leading zero byte in the greatest length", "\x07\x00\x01\x01\x01\x01\x01\x01", 0, api.ErrForm},
		{"MaxInt + 1", "\x07\x04\x00\x00\x00\x00\x00\x01", 0, api.ErrForm},
		{"the greatest number of seven bytes", "\x07\xff\xff\xff\xff\xff\xff\xff", 0, api.ErrForm},
	}
	for _, c := range cases {
		if n, to, e := ReadInt(c.s, c.at); n != 0 || to != 0 || e != c.want {
			t.Errorf("%s: ReadInt(%q, %d) = %d, %d, %d; want 0, 0, %d", c.what, c.s, c.at, n, to, e, c.want)
		}
	}
}

// P1.3

func TestTextIsLengthAndBytes(t *testing.T) {
	for s, head := range texts() {
		for _, most := range []int{len(s), len(s) + 1, math.MaxInt} {
			got, e := Text(s, most)
			if got != head+s || e != api.OK {
				t.Errorf("Text of %d bytes, at most %d: %d bytes, error %d; want %q before it", len(s), most, len(got), e, head)
			}
		}
	}
}

func TestTextRejectsWhatIsLong(t *testing.T) {
	cases := []struct {
		s    string
		most int
	}{{"abc", 2}, {"a", 0}, {"", -1}, {"a", -1}, {"ab", math.MinInt}, {strings.Repeat("x", 256), 255}}
	for _, c := range cases {
		if got, e := Text(c.s, c.most); got != "" || e != api.ErrLong {
			t.Errorf("Text(%q, %d) = %q, %d; want ErrLong", c.s, c.most, got, e)
		}
	}
}

// P1.4

func TestReadTextReadsAtAnyOffset(t *testing.T) {
	for s, head := range texts() {
		for _, before := range []string{"", "\x01", "abc"} {
			for _, after := range []string{"", "\x00", "xyz"} {
				for _, most := range []int{len(s), len(s) + 1, math.MaxInt} {
					got, to, e := ReadText(before+head+s+after, len(before), most)
					if got != s || to != len(before)+len(head)+len(s) || e != api.OK {
						t.Errorf("ReadText of %d bytes after %q, before %q, at most %d: %d bytes, to %d, error %d", len(s), before, after, most, len(got), to, e)
					}
				}
			}
		}
	}
}

func TestReadTextErrors(t *testing.T) {
	cases := []struct {
		what string
		s    string
		at   int
		most int
		want api.Errno
	}{
		{"an offset below 0", "\x00", -1, 9, api.ErrArg},
		{"an offset after the end", "\x00", 2, 9, api.ErrArg},
		{"nothing", "", 0, 9, api.ErrShort},
		{"the offset of the end", "\x01\x01a", 3, 9, api.ErrShort},
		{"a length of eight bytes", "\x08aaaaaaaa", 0, 9, api.ErrForm},
		{"a length that is cut", "\x02\x01", 0, 9, api.ErrShort},
		{"a length with a leading zero byte", "\x02\x00\x01a", 0, 9, api.ErrForm},
		{"a length with a leading zero byte, and too long: ReadInt's error comes first", "\x02\x00\x05", 0, 1, api.ErrForm},
		{"a length above MaxInt", "\x07\x04\x00\x00\x00\x00\x00\x01", 0, math.MaxInt, api.ErrForm},
		{"a string that is too long", "\x01\x03abc", 0, 2, api.ErrLong},
		{"a string that is too long and cut: the length comes first", "\x01\x09ab", 0, 8, api.ErrLong},
		{"a string that is cut", "\x01\x09ab", 0, 9, api.ErrShort},
		{"a string whose last byte is missing", "z\x01\x03ab", 1, 9, api.ErrShort},
		{"a string of MaxInt bytes", "\x07\x04\x00\x00\x00\x00\x00\x00", 0, math.MaxInt, api.ErrShort},
		{"an empty string where none may be", "\x00", 0, -1, api.ErrLong},
		{"the least limit", "\x00", 0, math.MinInt, api.ErrLong},
	}
	for _, c := range cases {
		if got, to, e := ReadText(c.s, c.at, c.most); got != "" || to != 0 || e != c.want {
			t.Errorf("%s: ReadText(%q, %d, %d) = %q, %d, %d; want nothing, 0, %d", c.what, c.s, c.at, c.most, got, to, e, c.want)
		}
	}
}

// P1.5

func TestFixedReturnsTheLeastSignificantBytes(t *testing.T) {
	cases := []struct {
		n     uint64
		width int
		want  string
	}{
		{0, 1, "\x00"},
		{0, 3, "\x00\x00\x00"},
		{300, 1, "\x2c"},
		{300, 2, "\x01\x2c"},
		{300, 3, "\x00\x01\x2c"},
		{1<<40 + 7, 2, "\x00\x07"},
		{0x0102030405060708, 5, "\x04\x05\x06\x07\x08"},
		{0x0102030405060708, 7, "\x02\x03\x04\x05\x06\x07\x08"},
		{0x0102030405060708, 8, "\x01\x02\x03\x04\x05\x06\x07\x08"},
		{0x0102030405060708, 9, "\x00\x01\x02\x03\x04\x05\x06\x07\x08"},
		{math.MaxUint64, 8, "\xff\xff\xff\xff\xff\xff\xff\xff"},
		{math.MaxUint64, 12, "\x00\x00\x00\x00\xff\xff\xff\xff\xff\xff\xff\xff"},
		{math.MaxUint64, 50000, strings.Repeat("\x00", 49992) + "\xff\xff\xff\xff\xff\xff\xff\xff"},
	}
	for _, c := range cases {
		if got := Fixed(c.n, c.width); got != c.want {
			t.Errorf("Fixed(%d, %d) has %d bytes, or others than it should", c.n, c.width, len(got))
		}
	}
}

func TestFixedOfAWrongWidthIsEmpty(t *testing.T) {
	for _, width := range []int{0, -1, -8, math.MinInt, api.MaxRecord + 1, 1 << 40, math.MaxInt} {
		if got := Fixed(300, width); got != "" {
			t.Errorf("Fixed(300, %d) has %d bytes; want none", width, len(got))
		}
	}
}

// P1.6

func TestWorthIsTheNumberOfTheBytes(t *testing.T) {
	cases := []struct {
		s    string
		want uint64
	}{
		{"", 0},
		{"\x00", 0},
		{"\x07", 7},
		{"\xff", 255},
		{"\x01\x00", 256},
		{"\x00\x00\x01\x2c", 300},
		{"\x01\x02\x03\x04\x05\x06\x07\x08", 0x0102030405060708},
		{"\xff\xff\xff\xff\xff\xff\xff\xff", math.MaxUint64},
		{"\x09\x01\x02\x03\x04\x05\x06\x07\x08", 0x0102030405060708},
		{"\x01\x00\x00\x00\x00\x00\x00\x00\x00", 0},
		{strings.Repeat("\xee", 1000) + "\x00\x00\x00\x00\x00\x00\x00\x2a", 42},
		{"é", 0xc3a9},
	}
	for _, c := range cases {
		if got := Worth(c.s); got != c.want {
			t.Errorf("Worth of %d bytes = %d; want %d", len(c.s), got, c.want)
		}
	}
}

// P1.7

func TestWhatIsEncodedIsDecodedInARow(t *testing.T) {
	var all string
	var ends []int
	for _, c := range ints {
		a, _ := Int(c.n)
		b, _ := Text(a, 20)
		all += a
		ends = append(ends, len(all))
		all += b
		ends = append(ends, len(all))
	}
	at := 0
	for i, c := range ints {
		n, to, e := ReadInt(all, at)
		if n != c.n || to != ends[2*i] || e != api.OK {
			t.Fatalf("the number %d, at %d: %d, %d, %d", c.n, at, n, to, e)
		}
		s, end, f := ReadText(all, to, 20)
		if s != c.bytes || end != ends[2*i+1] || f != api.OK {
			t.Fatalf("the string %q, at %d: %q, %d, %d", c.bytes, to, s, end, f)
		}
		at = end
	}
	if at != len(all) {
		t.Errorf("the row ends at %d; want %d", at, len(all))
	}
}

func TestEachSmallNumberIsDecoded(t *testing.T) {
	for n := 0; n < 1<<17; n++ {
		s, e := Int(n)
		got, to, f := ReadInt(s, 0)
		if e != api.OK || f != api.OK || got != n || to != len(s) {
			t.Fatalf("Int(%d) = %q, %d; ReadInt of it: %d, %d, %d", n, s, e, got, to, f)
		}
	}
}

// each calls f with every string of at most most bytes that are all in some.
func each(some string, most int, f func(string)) {
	var grow func(string)
	grow = func(s string) {
		f(s)
		for i := 0; i < len(some) && len(s) < most; i++ {
			grow(s + some[i:i+1])
		}
	}
	grow("")
}

func TestNoOtherBytesAreDecodedToTheSame(t *testing.T) {
	read := 0
	look := func(s string) {
		if n, to, e := ReadInt(s, 0); e == api.OK {
			read++
			if again, f := Int(n); f != api.OK || again != s[:to] {
				t.Errorf("%q is decoded to %d, which is %q", s[:to], n, again)
			}
		}
		if x, to, e := ReadText(s, 0, 1000); e == api.OK {
			read++
			if again, f := Text(x, 1000); f != api.OK || again != s[:to] {
				t.Errorf("%q is decoded to %q, which is %q", s[:to], x, again)
			}
		}
	}
	var bytes strings.Builder
	for i := range 256 {
		bytes.WriteByte(byte(i))
	}
	each(bytes.String(), 2, look)
	each("\x00\x01\x02\x03", 8, look)
	each("\x00\x04\x07\xff", 8, look)
	if read == 0 {
		t.Error("nothing was decoded")
	}
}

// P1.8

func TestFixedAndWorthAreInverse(t *testing.T) {
	for _, n := range []uint64{0, 1, 255, 256, 300, 1 << 31, 1<<32 - 1, 1 << 50, 0x0123456789abcdef, 1 << 63, math.MaxUint64} {
		for width := 1; width <= 20; width++ {
			want := n
			if width < 8 {
				want = n % (1 << (8 * width))
			}
			if got := Worth(Fixed(n, width)); got != want {
				t.Errorf("Worth(Fixed(%d, %d)) = %d; want %d", n, width, got, want)
			}
		}
	}
	back := func(s string) {
		if got := Fixed(Worth(s), len(s)); got != s {
			t.Errorf("Fixed(Worth(%q), %d) = %q", s, len(s), got)
		}
	}
	each("\x00\x01\x80\xff", 8, back)
	each("\x00\xc3\xa9", 8, back)
}

// R3

func TestResultsAreNewMemory(t *testing.T) {
	s := strings.Repeat("x", 40)
	a, e := Text(s, 40)
	b, _, f := ReadText(a, 0, 40)
	if e != api.OK || f != api.OK {
		t.Fatal(e, f)
	}
	from, to := uintptr(unsafe.Pointer(unsafe.StringData(a))), uintptr(len(a))
	at := uintptr(unsafe.Pointer(unsafe.StringData(b)))
	if at >= from && at < from+to {
		t.Error("ReadText's string is a part of its argument")
	}
}
