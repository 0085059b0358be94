package wots

import (
	"crypto/sha256"
	"crypto/sha3"
	"crypto/sha512"
	"encoding/binary"
	"encoding/hex"
	"strconv"
	"strings"

	"sigil/api"
	"sigil/tweak"
)

// functions are what the chapter builds upon: of Go's own hash functions, or of the layer below with any tables.
type functions struct {
	prf  func(p api.Forest, public, secret string, a api.Adrs) string
	hash func(p api.Forest, public string, a api.Adrs, s string) string
}

// below returns the functions of the layer below, with these tables.
func below(x api.Tables) functions {
	return functions{
		prf: func(p api.Forest, public, secret string, a api.Adrs) string {
			return tweak.Prf(x, p, public, secret, a)
		},
		hash: func(p api.Forest, public string, a api.Adrs, s string) string {
			return tweak.Hash(x, p, public, a, s)
		},
	}
}

// standard returns the functions of FIPS 205, of Go's own hash functions.
func standard() functions {
	hash := func(p api.Forest, public string, a api.Adrs, s string, wide bool) string {
		switch {
		case p.Family == api.FamShake:
			return string(sha3.SumSHAKE256([]byte(public+encoded(a, 4, 4, 4)+s), p.N))
		case wide:
			sum := sha512.Sum512([]byte(public + strings.Repeat("\x00", 128-p.N) + encoded(a, 1, 0, 1) + s))
			return string(sum[:p.N])
		}
		sum := sha256.Sum256([]byte(public + strings.Repeat("\x00", 64-p.N) + encoded(a, 1, 0, 1) + s))
		return string(sum[:p.N])
	}
	return functions{
		prf: func(p api.Forest, public, secret string, a api.Adrs) string {
			return hash(p, public, a, secret, false)
		},
		hash: func(p api.Forest, public string, a api.Adrs, s string) string {
			return hash(p, public, a, s, p.N > 16 && len(s) > p.N)
		},
	}
}

// encoded returns the bytes of an address: so many of its layer, so many zero bytes before its tree, and so many of its kind.
func encoded(a api.Adrs, layer, zeros, kind int) string {
	b := []byte(last(a.Layer, layer) + strings.Repeat("\x00", zeros) + last(a.Tree, 8) + last(uint64(a.Kind), kind))
	for _, n := range []uint64{a.Pair, a.High, a.Low} {
		b = binary.BigEndian.AppendUint32(b, uint32(n))
	}
	return string(b)
}

// last returns the last bytes of a number.
func last(n uint64, width int) string {
	return string(binary.BigEndian.AppendUint64(nil, n)[8-width:])
}

// numbers returns the numbers of the steps of P17.1.
func numbers(from, steps int) []uint64 {
	var l []uint64
	for n := range 16 {
		if from >= 0 && n >= from && n-from < steps {
			l = append(l, uint64(n))
		}
	}
	return l
}

// chain is P17.1.
func (f functions) chain(p api.Forest, s string, from, steps int, public string, a api.Adrs) string {
	for _, n := range numbers(from, steps) {
		s = f.hash(p, public, api.Adrs{Layer: a.Layer, Tree: a.Tree, Kind: a.Kind, Pair: a.Pair, High: a.High, Low: n}, s)
	}
	return s
}

// digits is P17.2: the digits as they are written in base 16.
func digits(p api.Forest, s string) []int {
	text := hex.EncodeToString([]byte(s + strings.Repeat("\x00", p.N)))[:2*p.N]
	left := 15 * len(text)
	for _, c := range text {
		n, _ := strconv.ParseInt(string(c), 16, 8)
		left -= int(n)
	}
	sum := strconv.FormatInt(int64(left), 16)
	most := strconv.FormatInt(int64(15*len(text)), 16)
	var l []int
	for _, c := range text + strings.Repeat("0", len(most)-len(sum)) + sum {
		n, _ := strconv.ParseInt(string(c), 16, 8)
		l = append(l, int(n))
	}
	return l
}

// open returns what the chains reach by so many steps.
func (f functions) open(p api.Forest, steps []int, key, public string, a api.Adrs) string {
	all := ""
	for i, n := range steps {
		start := f.prf(p, public, key, api.Adrs{Layer: a.Layer, Tree: a.Tree, Kind: 5, Pair: a.Pair, High: uint64(i)})
		all += f.chain(p, start, 0, n, public, api.Adrs{Layer: a.Layer, Tree: a.Tree, Kind: 0, Pair: a.Pair, High: uint64(i)})
	}
	return all
}

// compressed is what the ends of the chains become.
func (f functions) compressed(p api.Forest, ends, public string, a api.Adrs) string {
	return f.hash(p, public, api.Adrs{Layer: a.Layer, Tree: a.Tree, Kind: 1, Pair: a.Pair}, ends)
}

// public is P17.3.
func (f functions) public(p api.Forest, key, public string, a api.Adrs) string {
	var steps []int
	for range digits(p, "") {
		steps = append(steps, 15)
	}
	return f.compressed(p, f.open(p, steps, key, public, a), public, a)
}

// sign is P17.4.
func (f functions) sign(p api.Forest, s, key, public string, a api.Adrs) string {
	return f.open(p, digits(p, s), key, public, a)
}

// found is P17.5.
func (f functions) found(p api.Forest, sig, s, public string, a api.Adrs) string {
	ends := ""
	for i, d := range digits(p, s) {
		from, to := min(i*p.N, len(sig)), min((i+1)*p.N, len(sig))
		ends += f.chain(p, sig[from:to], d, 15-d, public, api.Adrs{Layer: a.Layer, Tree: a.Tree, Kind: 0, Pair: a.Pair, High: uint64(i)})
	}
	return f.compressed(p, ends, public, a)
}
