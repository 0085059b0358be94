package hyper

import (
	"sigil/adrs"
	"sigil/api"
	"sigil/xmss"
)

// The chapter, written a second time upon the layers below: the tree and the leaf of each layer are computed from the position that is passed, instead of those of the layer below.

// spot returns the tree and the leaf that a position leads to in a layer.
func spot(p api.Forest, layer int, where [2]uint64) (api.Adrs, int) {
	leaves := uint64(1) << (p.H / p.D)
	tree, leaf := where[0], where[1]
	for range layer {
		tree, leaf = tree/leaves, tree
	}
	return api.Adrs{Layer: uint64(layer), Tree: tree}, int(leaf % leaves)
}

// signature is P19.2: the signatures of all layers, one by one.
func signature(x api.Tables, p api.Forest, s, key, public string, where [2]uint64) []string {
	all := make([]string, p.D)
	for layer := range all {
		a, leaf := spot(p, layer, where)
		all[layer] = xmss.Sign(x, p, s, key, public, a, leaf)
		s = xmss.Found(x, p, leaf, all[layer], s, public, a)
	}
	return all
}

// found is P19.3.
func found(x api.Tables, p api.Forest, sig, s, public string, where [2]uint64) string {
	for layer := 0; layer < p.D; layer++ {
		a, leaf := spot(p, layer, where)
		s = xmss.Found(x, p, leaf, piece(sig, layer*oneLayer(p), oneLayer(p)), s, public, a)
	}
	return s
}

// oneLayer returns how many bytes one layer's signature has.
func oneLayer(p api.Forest) int {
	chains, sums, _ := adrs.Lengths(p)
	return chains*p.N + sums*p.N + p.H/p.D*p.N
}

// piece returns so many bytes of s from a place on, or as many as there are.
func piece(s string, from, n int) string {
	from = min(from, len(s))
	return s[from:min(from+n, len(s))]
}
