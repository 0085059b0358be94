package keccak

// cube is a state, bit by bit: the bit z of the lane at x, y is at [x][y][z].
type cube [5][5][64]byte

// cubed returns the bits of a.
func cubed(a [25]uint64) cube {
	var c cube
	for i, lane := range a {
		for z := range 64 {
			c[i%5][i/5][z] = byte(lane >> z & 1)
		}
	}
	return c
}

// lanes returns the lanes with the bits of c.
func lanes(c cube) [25]uint64 {
	var a [25]uint64
	for i := range a {
		for z, bit := range c[i%5][i/5] {
			a[i] |= uint64(bit) << z
		}
	}
	return a
}

// each calls f for each bit of a state, with its place, and returns a state of the results.
func each(f func(x, y, z int) byte) [25]uint64 {
	var c cube
	for x := range 5 {
		for y := range 5 {
			for z := range 64 {
				c[x][y][z] = f(x, y, z)
			}
		}
	}
	return lanes(c)
}

// mixed returns what Mix is to return.
func mixed(a [25]uint64) [25]uint64 {
	c := cubed(a)
	return each(func(x, y, z int) byte {
		bit := c[x][y][z]
		for row := range 5 {
			bit ^= c[(x+4)%5][row][z] ^ c[(x+1)%5][row][(z+63)%64]
		}
		return bit
	})
}

// turned returns what Turn is to return.
func turned(turns [25]int, a [25]uint64) [25]uint64 {
	old := cubed(a)
	var c cube
	for x := range 5 {
		for y := range 5 {
			amount := (turns[x+5*y]%64 + 64) % 64
			for z, bit := range old[x][y] {
				c[y][(2*x+3*y)%5][(z+amount)%64] = bit
			}
		}
	}
	return lanes(c)
}

// bent returns what Bend is to return.
func bent(a [25]uint64) [25]uint64 {
	c := cubed(a)
	return each(func(x, y, z int) byte {
		return c[x][y][z] ^ (1-c[(x+1)%5][y][z])*c[(x+2)%5][y][z]
	})
}

// stepped returns what Step is to return for a round that adds the number.
func stepped(turns [25]int, number uint64, a [25]uint64) [25]uint64 {
	a = bent(turned(turns, mixed(a)))
	a[0] ^= number
	return a
}
