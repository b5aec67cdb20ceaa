package parent

import (
	"slices"

	"noria/api"
)

// How deep a node may stand, and among how many it may choose.
const (
	deepest   = 8
	mostCands = 8
)

// Right tells whether a tree can be made of those nodes: each but the root may choose, and only such as stand less deep.
func Right(l []Node) bool {
	if len(l) < 1 || len(l) > api.MaxNodes || l[0].Depth != 0 || len(l[0].Cands) > 0 {
		return false
	}
	for _, n := range l[1:] {
		if n.Depth < 1 || n.Depth > deepest || !rightCands(l, n) {
			return false
		}
	}
	return true
}

// rightCands tells whether n's Cands are some, not too many, each once, and each a node of a lesser Depth.
func rightCands(l []Node, n Node) bool {
	if len(n.Cands) < 1 || len(n.Cands) > mostCands {
		return false
	}
	for i, c := range n.Cands {
		if c < 1 || c > len(l) || l[c-1].Depth >= n.Depth || slices.Contains(n.Cands[:i], c) {
			return false
		}
	}
	return true
}
