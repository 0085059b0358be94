package sha

import (
	"encoding/binary"
	"math/big"

	"sigil/api"
)

// word is arithmetic on words of 32 or 64 bits, with the chapter's amounts.
type word struct {
	bits, rounds int
	a, b         [3]int // two rotations and a shift
	x, y         [3]int
}

var words32 = word{32, 64, [3]int{7, 18, 3}, [3]int{17, 19, 10}, [3]int{6, 11, 25}, [3]int{2, 13, 22}}
var words64 = word{64, 80, [3]int{1, 8, 7}, [3]int{19, 61, 6}, [3]int{14, 18, 41}, [3]int{28, 34, 39}}

// cut returns n modulo 2 to the power of the word's bits.
func (w word) cut(n uint64) uint64 {
	return n << (64 - w.bits) >> (64 - w.bits)
}

// right returns x rotated right, bit by bit.
func (w word) right(x uint64, amount int) uint64 {
	var turned uint64
	for i := range w.bits {
		if x>>i&1 == 1 {
			turned |= 1 << ((i - amount + w.bits) % w.bits)
		}
	}
	return turned
}

// mixed returns the exclusive or of two rotations and a shift.
func (w word) mixed(x uint64, amounts [3]int) uint64 {
	return w.right(x, amounts[0]) ^ w.right(x, amounts[1]) ^ x>>amounts[2]
}

// turned returns the exclusive or of three rotations.
func (w word) turned(x uint64, amounts [3]int) uint64 {
	return w.right(x, amounts[0]) ^ w.right(x, amounts[1]) ^ w.right(x, amounts[2])
}

// after returns the eight words v after one block.
func (w word) after(table []uint64, v [8]uint64, block string) [8]uint64 {
	var row []uint64
	for i := range 16 {
		n := new(big.Int).SetBytes([]byte(block[i*w.bits/8 : (i+1)*w.bits/8]))
		row = append(row, n.Uint64())
	}
	for i := 16; i < w.rounds; i++ {
		row = append(row, w.cut(row[i-16]+w.mixed(row[i-15], w.a)+row[i-7]+w.mixed(row[i-2], w.b)))
	}
	before := v
	for i := range w.rounds {
		x := v[7] + w.turned(v[4], w.x) + (v[4]&v[5] ^ ^v[4]&v[6]) + table[i] + row[i]
		y := w.turned(v[0], w.y) + (v[0]&v[1] ^ v[0]&v[2] ^ v[1]&v[2])
		v = [8]uint64{w.cut(x + y), v[0], v[1], v[2], w.cut(v[3] + x), v[4], v[5], v[6]}
	}
	for i := range v {
		v[i] = w.cut(v[i] + before[i])
	}
	return v
}

// hash returns the bytes of the words after all blocks of s, which is padded as the end of a string of n bytes.
func (w word) hash(table []uint64, v [8]uint64, s string, n int) string {
	s = padding(w, s, n)
	for size := 2 * w.bits; s != ""; s = s[size:] {
		v = w.after(table, v, s[:size])
	}
	var b []byte
	for _, x := range v {
		eight := binary.BigEndian.AppendUint64(nil, x)
		b = append(b, eight[8-w.bits/8:]...)
	}
	return string(b)
}

// padding returns s, the end of a string of n bytes, and the byte 128, zero bytes and the length in bits.
func padding(w word, s string, n int) string {
	b := append([]byte(s), 128)
	for (len(b)+w.bits/4)%(2*w.bits) != 0 {
		b = append(b, 0)
	}
	length := new(big.Int).Mul(big.NewInt(int64(n)), big.NewInt(8))
	return string(append(b, length.FillBytes(make([]byte, w.bits/4))...))
}

// parts returns the arithmetic, the table's words, and the words at the start.
func parts(t api.Tables, wide bool) (word, []uint64, [8]uint64) {
	if wide {
		return words64, t.Large[:], t.LargeStart
	}
	var table []uint64
	for _, x := range t.Small {
		table = append(table, uint64(x))
	}
	return words32, table, words(t.SmallStart)
}

// words returns the words with 64 bits each.
func words(v [8]uint32) [8]uint64 {
	var long [8]uint64
	for i, x := range v {
		long[i] = uint64(x)
	}
	return long
}

// expected returns the hash of s with any tables.
func expected(t api.Tables, wide bool, s string) string {
	w, table, v := parts(t, wide)
	return w.hash(table, v, s, len(s))
}
