package tweak

import (
	"crypto/hmac"
	"crypto/sha256"
	"crypto/sha3"
	"crypto/sha512"
	"encoding/binary"
	"hash"
	"strings"

	"sigil/adrs"
	"sigil/api"
	"sigil/mac"
	"sigil/sha"
	"sigil/sponge"
)

// functions are what the chapter builds upon: Go's own functions, or those of the layers below with any tables.
type functions struct {
	hash  func(wide bool, s string) string
	hmac  func(wide bool, key, s string) string
	mask  func(wide bool, seed string, n int) string
	shake func(s string, n int) string
}

// algorithm returns Go's own SHA-256, or, if it is wide, SHA-512.
func algorithm(wide bool) func() hash.Hash {
	if wide {
		return sha512.New
	}
	return sha256.New
}

// sum returns what h makes of s.
func sum(h hash.Hash, s string) string {
	h.Write([]byte(s))
	return string(h.Sum(nil))
}

// standard returns Go's own functions.
func standard() functions {
	return functions{
		hash: func(wide bool, s string) string { return sum(algorithm(wide)(), s) },
		hmac: func(wide bool, key, s string) string { return sum(hmac.New(algorithm(wide), []byte(key)), s) },
		mask: func(wide bool, seed string, n int) string {
			b := ""
			for i := uint32(0); len(b) < n; i++ {
				b += sum(algorithm(wide)(), seed+string(binary.BigEndian.AppendUint32(nil, i)))
			}
			return b[:n]
		},
		shake: func(s string, n int) string { return string(sha3.SumSHAKE256([]byte(s), n)) },
	}
}

// below returns the functions of the layers below, with these tables.
func below(x api.Tables) functions {
	return functions{
		hash: func(wide bool, s string) string {
			if wide {
				return sha.Large(x, s)
			}
			return sha.Small(x, s)
		},
		hmac: func(wide bool, key, s string) string { return mac.Hmac(x, wide, key, s) },
		mask: func(wide bool, seed string, n int) string { return mac.Mask(x, wide, seed, n) },
		shake: func(s string, n int) string {
			b, _ := sponge.Shake(x, api.Shake256, s, n)
			return b
		},
	}
}

// filled returns a public seed of N bytes, or another string, with as many zero bytes after it as a block of that size has without N bytes.
func filled(p api.Forest, block int, public string) string {
	return public + strings.Repeat("\x00", block-p.N)
}

// prf is P16.1.
func (f functions) prf(p api.Forest, public, secret string, a api.Adrs) string {
	if p.Family == api.FamShake {
		return f.shake(public+adrs.Bytes(a)+secret, p.N)
	}
	return f.hash(false, filled(p, 64, public)+adrs.Short(a)+secret)[:p.N]
}

// random is P16.2.
func (f functions) random(p api.Forest, key, random, s string) string {
	if p.Family == api.FamShake {
		return f.shake(key+random+s, p.N)
	}
	return f.hmac(p.N > 16, key, random+s)[:p.N]
}

// digest is P16.3.
func (f functions) digest(p api.Forest, r, public, root, s string) string {
	n := digestBytes(p)
	if p.Family == api.FamShake {
		return f.shake(r+public+root+s, n)
	}
	return f.mask(p.N > 16, r+public+f.hash(p.N > 16, r+public+root+s), n)
}

// placedHash is P16.4.
func (f functions) placedHash(p api.Forest, public string, a api.Adrs, s string) string {
	if p.Family == api.FamShake {
		return f.shake(public+adrs.Bytes(a)+s, p.N)
	}
	if p.N > 16 && len(s) > p.N {
		return f.hash(true, filled(p, 128, public)+adrs.Short(a)+s)[:p.N]
	}
	return f.hash(false, filled(p, 64, public)+adrs.Short(a)+s)[:p.N]
}

// digestBytes returns how many bytes the three numbers in a digest fill, by counting their bits.
func digestBytes(p api.Forest) int {
	n := 0
	for _, count := range []int{p.K * p.A, p.H - p.H/p.D, p.H / p.D} {
		for ; count > 0; count -= 8 {
			n++
		}
	}
	return n
}
