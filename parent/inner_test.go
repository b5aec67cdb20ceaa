package parent

import (
	"math/rand"
	"slices"
	"testing"
	"unsafe"
)

// someNodes is a root, relays of two depths, and those that may choose among them.
func someNodes() []Node {
	return []Node{
		{}, {1, []int{1}}, {1, []int{1}}, {1, []int{1}},
		{2, []int{2, 3, 4, 1}}, {2, []int{4, 3}},
		{3, []int{5, 6, 2}}, {3, []int{6, 5, 4, 3, 2, 1}}, {4, []int{8, 7, 6}},
	}
}

// checkKept holds what is kept against its rules: each has what it would choose now, and doubts some of its Cands, but not all that are up; who is not up doubts nobody.
func checkKept(t *testing.T, tree *Tree) {
	t.Helper()
	for i, n := range tree.nodes {
		if n.parent != tree.chosen(i+1) || !n.up && n.parent != 0 {
			t.Fatalf("%d has %d, and would choose %d", i+1, n.parent, tree.chosen(i+1))
		}
	}
	for d := range tree.doubts {
		if n := tree.find(d.by); n == nil || !n.up || !slices.Contains(n.cands, d.of) {
			t.Fatalf("%d doubts %d", d.by, d.of)
		}
	}
}

// What is kept keeps to its rules, whoever falls, rises and is doubted.
func TestKept(t *testing.T) {
	r := rand.New(rand.NewSource(1))
	tree, _ := New(someNodes())
	most := 0
	for range 20000 {
		id := r.Intn(11)
		switch r.Intn(6) {
		case 0:
			tree.Fall(id)
		case 1:
			tree.Rise(id)
		case 2:
			tree.Doubt(id, r.Intn(11))
		default:
			tree.Doubt(id, tree.Parent(id))
		}
		checkKept(t, tree)
		most = max(most, len(tree.doubts))
	}
	if most < 5 {
		t.Errorf("at most %d are doubted", most)
	}
	for id := range 10 {
		tree.Fall(id)
	}
	if len(tree.doubts) > 0 {
		t.Errorf("%v are kept", tree.doubts)
	}
}

// Who has all that it may choose among doubted doubts nobody; what does not hold is no doubt.
func TestTrust(t *testing.T) {
	tree, _ := New(someNodes())
	for _, d := range []doubt{{5, 2}, {5, 3}, {6, 4}, {5, 4}} {
		tree.Doubt(d.by, d.of)
		tree.Doubt(d.by, d.of)
		tree.Doubt(d.of, d.by)
		tree.Doubt(d.by, 0)
		if _, is := tree.doubts[d]; !is {
			t.Errorf("%v are doubted, without %v", tree.doubts, d)
		}
	}
	if len(tree.doubts) != 4 {
		t.Errorf("%v are doubted", tree.doubts)
	}
	tree.Doubt(5, 1)
	if _, is := tree.doubts[doubt{6, 4}]; !is || len(tree.doubts) != 1 {
		t.Errorf("%v are doubted", tree.doubts)
	}
}

// P3: no list is kept that was handed in, nor its spare room.
func TestKeptLists(t *testing.T) {
	l := someNodes()
	for i := range l {
		l[i].Cands = append(slices.Grow(l[i].Cands, 20), 99)[:len(l[i].Cands)]
	}
	tree, _ := New(l)
	for i, n := range tree.nodes {
		if len(n.cands) > 0 && unsafe.SliceData(n.cands) == unsafe.SliceData(l[i].Cands) || cap(n.cands) > 15 {
			t.Errorf("what %d may choose is kept as it was handed in", i+1)
		}
		if !slices.Equal(n.cands, l[i].Cands) {
			t.Errorf("%d may choose %v", i+1, n.cands)
		}
	}
}
