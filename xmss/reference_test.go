package xmss

import (
	"sigil/api"
	"sigil/tweak"
	"sigil/wots"
)

// The chapter, written a second time upon the layers below: trees are made row by row, from the leaves on.

// at returns the address of a kind in the layer and the tree of a.
func at(a api.Adrs, kind, pair, high, low int) api.Adrs {
	return api.Adrs{Layer: a.Layer, Tree: a.Tree, Kind: kind, Pair: uint64(pair), High: uint64(high), Low: uint64(low)}
}

// rows is P18.1: the nodes of all heights.
func rows(x api.Tables, p api.Forest, key, public string, a api.Adrs) [][]string {
	row := make([]string, 1<<(p.H/p.D))
	for i := range row {
		row[i] = wots.Public(x, p, key, public, at(a, 0, i, 0, 0))
	}
	all := [][]string{row}
	for len(row) > 1 {
		var next []string
		for i := 0; i < len(row); i += 2 {
			next = append(next, tweak.Hash(x, p, public, at(a, 2, 0, len(all), i/2), row[i]+row[i+1]))
		}
		row = next
		all = append(all, row)
	}
	return all
}

// signature is P18.2, of a tree with these rows.
func signature(x api.Tables, p api.Forest, s, key, public string, a api.Adrs, i int, all [][]string) string {
	sig := wots.Sign(x, p, s, key, public, at(a, 0, i, 0, 0))
	for _, row := range all[:p.H/p.D] {
		if i%2 == 0 {
			sig += row[i+1]
		} else {
			sig += row[i-1]
		}
		i /= 2
	}
	return sig
}

// found is P18.3.
func found(x api.Tables, p api.Forest, i int, sig, s, public string, a api.Adrs) string {
	from := len(wots.Digits(p, "")) * p.N
	node := wots.Found(x, p, piece(sig, 0, from), s, public, at(a, 0, i, 0, 0))
	for z := 1; z <= p.H/p.D; z++ {
		both := node + piece(sig, from, p.N)
		if i%2 == 1 {
			both = piece(sig, from, p.N) + node
		}
		i /= 2
		from += p.N
		node = tweak.Hash(x, p, public, at(a, 2, 0, z, i), both)
	}
	return node
}

// piece returns so many bytes of s from a place on, or as many as there are.
func piece(s string, from, n int) string {
	from = min(from, len(s))
	return s[from:min(from+n, len(s))]
}
