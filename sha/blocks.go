package sha

import (
	"math/bits"

	"sigil/octets"
)

// smallBlock changes the eight words v by a block of 64 bytes.
func smallBlock(table *[64]uint32, v *[8]uint32, block string) {
	var w [64]uint32
	for i := range 16 {
		w[i] = uint32(octets.Worth(block[4*i : 4*i+4]))
	}
	for i := 16; i < len(w); i++ {
		p, q := w[i-15], w[i-2]
		w[i] = w[i-16] + (turned32(p, 7, 18) ^ p>>3) + w[i-7] + (turned32(q, 17, 19) ^ q>>10)
	}
	// Eight variables are held in registers, which an array is not.
	a, b, c, d, e, f, g, h := v[0], v[1], v[2], v[3], v[4], v[5], v[6], v[7]
	for i := range w {
		x := h + turned32(e, 6, 11, 25) + (e&f ^ ^e&g) + table[i] + w[i]
		y := turned32(a, 2, 13, 22) + (a&b ^ a&c ^ b&c)
		a, b, c, d, e, f, g, h = x+y, a, b, c, d+x, e, f, g
	}
	for i, x := range [8]uint32{a, b, c, d, e, f, g, h} {
		v[i] += x
	}
}

// largeBlock changes the eight words v by a block of 128 bytes.
func largeBlock(table *[80]uint64, v *[8]uint64, block string) {
	var w [80]uint64
	for i := range 16 {
		w[i] = octets.Worth(block[8*i : 8*i+8])
	}
	for i := 16; i < len(w); i++ {
		p, q := w[i-15], w[i-2]
		w[i] = w[i-16] + (turned64(p, 1, 8) ^ p>>7) + w[i-7] + (turned64(q, 19, 61) ^ q>>6)
	}
	a, b, c, d, e, f, g, h := v[0], v[1], v[2], v[3], v[4], v[5], v[6], v[7]
	for i := range w {
		x := h + turned64(e, 14, 18, 41) + (e&f ^ ^e&g) + table[i] + w[i]
		y := turned64(a, 28, 34, 39) + (a&b ^ a&c ^ b&c)
		a, b, c, d, e, f, g, h = x+y, a, b, c, d+x, e, f, g
	}
	for i, x := range [8]uint64{a, b, c, d, e, f, g, h} {
		v[i] += x
	}
}

// turned32 returns the exclusive or of x rotated right by each of the amounts. The first two stand alone, as a loop over them would take longer than the rotations.
func turned32(x uint32, first, second int, others ...int) uint32 {
	sum := bits.RotateLeft32(x, -first) ^ bits.RotateLeft32(x, -second)
	for _, n := range others {
		sum ^= bits.RotateLeft32(x, -n)
	}
	return sum
}

// turned64 is turned32 for words of 64 bits.
func turned64(x uint64, first, second int, others ...int) uint64 {
	sum := bits.RotateLeft64(x, -first) ^ bits.RotateLeft64(x, -second)
	for _, n := range others {
		sum ^= bits.RotateLeft64(x, -n)
	}
	return sum
}
