package parent

import (
	"maps"
	"slices"
)

// node is how it stands with a node.
type node struct {
	cands  []int
	up     bool
	parent int
}

// doubt is that one does not want another one above it.
type doubt struct{ by, of int }

// find is the node of that id; nil, if there is none.
func (t *Tree) find(id int) *node {
	if id < 1 || id > len(t.nodes) {
		return nil
	}
	return &t.nodes[id-1]
}

// chosen is whom a node of that id chooses now; 0, if there is nobody left.
func (t *Tree) chosen(id int) int {
	n := t.find(id)
	may := func(cand int) bool {
		_, doubted := t.doubts[doubt{by: id, of: cand}]
		return t.Up(cand) && !doubted
	}
	place := slices.IndexFunc(n.cands, may)
	if place < 0 || !n.up {
		return 0
	}
	return n.cands[place]
}

// choose lets each node choose again: those, rising, whose Parent turned. Who has nothing to choose anew chooses as it did.
func (t *Tree) choose() []int {
	var turned []int
	for i := range t.nodes {
		id := i + 1
		if p := t.chosen(id); p != t.Parent(id) {
			t.nodes[i].parent = p
			turned = append(turned, id)
		}
	}
	return turned
}

// trust takes away the doubts that are meant.
func (t *Tree) trust(meant func(d doubt) bool) {
	maps.DeleteFunc(t.doubts, func(d doubt, _ struct{}) bool { return meant(d) })
}
