package sponge

import (
	"sigil/api"
	"sigil/keccak"
)

// kinds are the kinds, with their rate, what follows the input, and the bytes of a hash (0: it has none).
var kinds = []struct {
	kind, rate int
	end        byte
	size       int
}{
	{api.Shake128, 168, 31, 0},
	{api.Shake256, 136, 31, 0},
	{api.Sha3256, 136, 6, 32},
	{api.Sha3512, 72, 6, 64},
}

// mixed returns the state with x mixed into byte i of it.
func mixed(a [25]uint64, i int, x byte) [25]uint64 {
	for range i % 8 {
		a[i/8] = a[i/8]>>8 | a[i/8]<<56
	}
	a[i/8] ^= uint64(x)
	for range i % 8 {
		a[i/8] = a[i/8]<<8 | a[i/8]>>56
	}
	return a
}

// absorbed returns what Absorb is to return for a valid sponge that is not squeezed yet, byte by byte.
func absorbed(t api.Tables, rate int, s api.Sponge, b string) api.Sponge {
	for i := range len(b) {
		s.Lanes = mixed(s.Lanes, s.At, b[i])
		s.At++
		if s.At == rate {
			s.Lanes = keccak.Permute(t, s.Lanes)
			s.At = 0
		}
	}
	return s
}

// squeezed returns what Squeeze is to return for a valid sponge, byte by byte.
func squeezed(t api.Tables, rate int, end byte, s api.Sponge, n int) (api.Sponge, string) {
	if !s.Out {
		s.Lanes = mixed(mixed(s.Lanes, s.At, end), rate-1, 128)
		s.Out = true
		s.At = rate
	}
	var b []byte
	for range n {
		if s.At == rate {
			s.Lanes = keccak.Permute(t, s.Lanes)
			s.At = 0
		}
		b = append(b, byte(s.Lanes[s.At/8]>>(8*(s.At%8))))
		s.At++
	}
	return s, string(b)
}
