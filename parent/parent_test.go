package parent_test

import (
	"math"
	"slices"
	"testing"

	"noria/api"
	"noria/parent"
)

type (
	node  = parent.Node
	nodes = []parent.Node
	ids   = []int
)

// noIDs are none of the nodes of any tree; some are one in their low bits alone.
var noIDs = ids{0, -1, -2, -31, 33, 34, 64, 1<<8 + 1, 1<<8 + 2, 1<<16 + 2, 1<<32 + 2, 1<<63 - 1, math.MinInt, math.MinInt + 1, math.MinInt + 2}

// at is a node of that Depth, and those Cands.
func at(depth int, cands ...int) node { return node{Depth: depth, Cands: cands} }

// some is a root (1), two relays (2, 3), a relay below these (4), and sidecars (5 to 7).
func some() nodes {
	return nodes{at(0), at(1, 1), at(1, 1), at(2, 3, 2), at(3, 4, 2, 3), at(2, 2, 3, 1), at(3, 4)}
}

// star is a root, and those that stand right below it.
func star(n int) nodes {
	l := nodes{at(0)}
	for len(l) < n {
		l = append(l, at(1, 1))
	}
	return l
}

// chain is a root, and below each one another one, down to Depth 8; the last ones share that.
func chain(n int) nodes {
	l := nodes{at(0)}
	for len(l) < n {
		depth := min(len(l), 8)
		l = append(l, at(depth, depth))
	}
	return l
}

// made is a tree of those nodes.
func made(t *testing.T, l nodes) *parent.Tree {
	t.Helper()
	tree, errno := parent.New(l)
	if errno != api.OK || tree == nil {
		t.Fatalf("New(%v) = %v, %d", l, tree, errno)
	}
	return tree
}

func wantText(t *testing.T, tree *parent.Tree, want string) {
	t.Helper()
	if got := tree.Text(); got != want {
		t.Errorf("Text() = %q, want %q", got, want)
	}
}

func wantPath(t *testing.T, tree *parent.Tree, id int, ok bool, want ...int) {
	t.Helper()
	if got, is := tree.Path(id); is != ok || !slices.Equal(got, want) {
		t.Errorf("Path(%d) = %v, %v, want %v, %v", id, got, is, want, ok)
	}
}

func wantBelow(t *testing.T, tree *parent.Tree, id int, want ...int) {
	t.Helper()
	if got := tree.Below(id); !slices.Equal(got, want) {
		t.Errorf("Below(%d) = %v, want %v", id, got, want)
	}
}

// falls lets a node fall, and holds who turned, and how it stands then, against what is wanted.
func falls(t *testing.T, tree *parent.Tree, id int, text string, turned ...int) {
	t.Helper()
	if got := tree.Fall(id); !slices.Equal(got, turned) {
		t.Errorf("Fall(%d) = %v, want %v", id, got, turned)
	}
	wantText(t, tree, text)
}

// rises is likewise, of a node that rises.
func rises(t *testing.T, tree *parent.Tree, id int, text string, turned ...int) {
	t.Helper()
	if got := tree.Rise(id); !slices.Equal(got, turned) {
		t.Errorf("Rise(%d) = %v, want %v", id, got, turned)
	}
	wantText(t, tree, text)
}

// doubts lets a node doubt another one, which is its Parent.
func doubts(t *testing.T, tree *parent.Tree, id, of int, text string) {
	t.Helper()
	if !tree.Doubt(id, of) {
		t.Errorf("Doubt(%d, %d) does not hold", id, of)
	}
	wantText(t, tree, text)
}

// The chapter's example; P16.1, P16.3: of the root alone.
func TestOne(t *testing.T) {
	tree := made(t, nodes{at(0)})
	wantText(t, tree, "1>0")
	if !tree.Up(1) || tree.Parent(1) != 0 {
		t.Error("the root does not stand above all")
	}
	wantPath(t, tree, 1, true, 1)
	wantBelow(t, tree, 1)
	wantBelow(t, tree, 0)
}

// P16.1: what is right is.
func TestRight(t *testing.T) {
	eight := nodes{at(0), at(1, 1), at(1, 1), at(1, 1), at(1, 1), at(1, 1), at(1, 1), at(1, 1), at(2, 8, 2, 7, 1, 6, 5, 4, 3)}
	for i, l := range []nodes{
		{at(0)}, {{Cands: ids{}}}, {at(0), at(1, 1)}, {at(0), at(8, 1)}, {at(0), at(5, 1), at(7, 2, 1)},
		star(31), star(32), chain(9), chain(32), some(), eight,
		// Whoever stands less deep may stand at a later place.
		{at(0), at(3, 3), at(2, 4), at(1, 1)}, {at(0), at(8, 3, 1), at(7, 1)},
	} {
		if !parent.Right(l) {
			t.Errorf("%d is not right: %v", i, l)
		}
		made(t, l)
	}
}

// P16.1: what is not right is not, and makes no tree.
func TestNotRight(t *testing.T) {
	var wrong []nodes
	add := func(l ...node) { wrong = append(wrong, l) }
	add()
	wrong = append(wrong, nodes{}, star(33), star(34), star(64), star(1<<16), make(nodes, 32), make(nodes, 33))
	for _, depth := range (ids{1, 2, 8, 9, -1, math.MaxInt, math.MinInt, 1 << 8, 1 << 32}) {
		add(at(depth))
		add(at(depth), at(1, 1))
		add(at(depth), at(8, 1))
	}
	add(at(0, 1))
	add(at(0, 2), at(1, 1))
	add(at(0, 0))
	for _, depth := range (ids{0, -1, -8, 9, 10, 1<<8 + 1, 1<<32 + 1, math.MaxInt, math.MinInt}) {
		add(at(0), at(depth, 1))
		add(at(0), at(1, 1), at(depth, 1))
		add(at(0), at(depth, 1), at(1, 1))
		add(at(0), at(depth))
	}
	add(at(0), at(1))
	add(at(0), at(1, 1), node{Depth: 2, Cands: ids{}})
	add(at(0), at(1), at(1, 1))
	for _, cand := range append(ids{2, 3, 4, 5, 32}, noIDs...) {
		add(at(0), at(1, cand), at(1, 1))
		add(at(0), at(1, 1, cand), at(1, 1))
		add(at(0), at(1, cand, 1), at(1, 1))
		add(at(0), at(1, 1), at(1, cand))
	}
	// A node of the same Depth, or a greater one.
	add(at(0), at(2, 1), at(2, 2))
	add(at(0), at(2, 1), at(2, 1, 2))
	add(at(0), at(2, 1), at(1, 2))
	add(at(0), at(8, 1), at(8, 1, 2))
	add(at(0), at(1, 3), at(2, 2))
	// The same one twice.
	add(at(0), at(1, 1, 1))
	add(at(0), at(1, 1), at(2, 1, 2, 1))
	add(at(0), at(1, 1), at(2, 2, 1, 1))
	add(at(0), at(1, 1), at(2, 2, 2, 1))
	// Nine of them.
	nine := slices.Clip(star(10))
	add(append(nine, at(2, 1, 2, 3, 4, 5, 6, 7, 8, 9))...)
	add(append(nine, at(2, make(ids, 1<<16)...))...)
	for i, l := range wrong {
		if parent.Right(l) {
			t.Errorf("%d is right: %.200v", i, l[:min(len(l), 10)])
		}
		if tree, errno := parent.New(l); tree != nil || errno != api.ErrArg {
			t.Errorf("New of %d = %v, %d", i, tree, errno)
		}
	}
}

// P16.1: each node is held against the limits, wherever it stands.
func TestNotRightAnywhere(t *testing.T) {
	for n := 2; n <= 32; n++ {
		for _, all := range []nodes{star(n), chain(n)} {
			for i := range all {
				for _, wrong := range (nodes{at(9, 1), at(-1, 1), at(max(1, all[i].Depth)), at(1, 1, 1), at(all[i].Depth, 1, i+1), at(8, n+1), at(8, 0)}) {
					l := slices.Clone(all)
					l[i] = wrong
					if parent.Right(l) {
						t.Errorf("%v is right, at %d of %d", wrong, i, n)
					}
				}
			}
		}
	}
}

// P16.1, P16.2: at first all are up, and each stands below the first of its Cands.
func TestNew(t *testing.T) {
	wantText(t, made(t, some()), "1>0 2>1 3>1 4>3 5>4 6>2 7>4")
	wantText(t, made(t, nodes{at(0), at(3, 3, 1), at(2, 4), at(1, 1)}), "1>0 2>3 3>4 4>1")
	for _, l := range []nodes{star(32), chain(32), some()} {
		tree := made(t, l)
		for i := range l {
			if !tree.Up(i + 1) {
				t.Errorf("%d is not up", i+1)
			}
			if p := tree.Parent(i + 1); i > 0 && p != l[i].Cands[0] || i == 0 && p != 0 {
				t.Errorf("Parent(%d) = %d", i+1, p)
			}
			if got := tree.Rise(i + 1); len(got) > 0 {
				t.Errorf("%v turned", got)
			}
		}
	}
}

// P16.2: Below is those whose Parent it is, rising, wherever it stands in their Cands.
func TestBelow(t *testing.T) {
	tree := made(t, some())
	wantBelow(t, tree, 1, 2, 3)
	wantBelow(t, tree, 2, 6)
	wantBelow(t, tree, 3, 4)
	wantBelow(t, tree, 4, 5, 7)
	for id := 5; id <= 8; id++ {
		wantBelow(t, tree, id)
	}
	tree.Fall(4)
	wantBelow(t, tree, 2, 5, 6)
	wantBelow(t, tree, 4)
	// 7 has nobody: it stands below nobody.
	wantBelow(t, tree, 0)
	var all ids
	for id := 2; id <= 32; id++ {
		all = append(all, id)
	}
	wantBelow(t, made(t, star(32)), 1, all...)
	wantBelow(t, made(t, chain(32)), 8, all[7:]...)
}

// P16.2: what is no node is not up, has nobody, and neither falls nor rises, nor is it doubted, or doubts.
func TestNoNode(t *testing.T) {
	tree := made(t, some())
	tree.Fall(4)
	text := tree.Text()
	for _, id := range append(ids{8, 9, 32}, noIDs...) {
		if tree.Up(id) || tree.Parent(id) != 0 {
			t.Errorf("%d is up, or has a Parent", id)
		}
		wantBelow(t, tree, id)
		wantPath(t, tree, id, false)
		falls(t, tree, id, text)
		rises(t, tree, id, text)
		for other := -1; other <= 9; other++ {
			if tree.Doubt(id, other) || tree.Doubt(other, id) {
				t.Errorf("%d doubts, or is doubted", id)
			}
		}
		wantText(t, tree, text)
	}
}

// P16.2: who falls has nobody above it, nor below it: these choose again. Told are those that turned.
func TestFall(t *testing.T) {
	tree := made(t, some())
	falls(t, tree, 1, "1>0 2>1 3>1 4>3 5>4 6>2 7>4")
	falls(t, tree, 5, "1>0 2>1 3>1 4>3 5- 6>2 7>4", 5)
	falls(t, tree, 5, "1>0 2>1 3>1 4>3 5- 6>2 7>4")
	rises(t, tree, 5, "1>0 2>1 3>1 4>3 5>4 6>2 7>4", 5)
	falls(t, tree, 2, "1>0 2- 3>1 4>3 5>4 6>3 7>4", 2, 6)
	falls(t, tree, 4, "1>0 2- 3>1 4- 5>3 6>3 7>0", 4, 5, 7)
	falls(t, tree, 7, "1>0 2- 3>1 4- 5>3 6>3 7-")
	falls(t, tree, 3, "1>0 2- 3- 4- 5>0 6>1 7-", 3, 5, 6)
	falls(t, tree, 1, "1>0 2- 3- 4- 5>0 6>1 7-")
	for id := 1; id <= 7; id++ {
		if tree.Up(id) != (id == 1 || id == 5 || id == 6) {
			t.Errorf("Up(%d) = %v", id, tree.Up(id))
		}
		if p := tree.Parent(id); p != 0 && (p != 1 || id != 6) {
			t.Errorf("Parent(%d) = %d", id, p)
		}
	}
	wantBelow(t, tree, 1, 6)
	wantBelow(t, tree, 3)
}

// P16.2: who rises chooses; who has somebody behind it, or nobody, chooses again. Told are those that turned.
func TestRise(t *testing.T) {
	tree := made(t, some())
	for _, id := range (ids{2, 4, 7, 3}) {
		tree.Fall(id)
	}
	rises(t, tree, 1, "1>0 2- 3- 4- 5>0 6>1 7-")
	rises(t, tree, 5, "1>0 2- 3- 4- 5>0 6>1 7-")
	rises(t, tree, 7, "1>0 2- 3- 4- 5>0 6>1 7>0")
	rises(t, tree, 3, "1>0 2- 3>1 4- 5>3 6>3 7>0", 3, 5, 6)
	rises(t, tree, 3, "1>0 2- 3>1 4- 5>3 6>3 7>0")
	rises(t, tree, 4, "1>0 2- 3>1 4>3 5>4 6>3 7>4", 4, 5, 7)
	rises(t, tree, 2, "1>0 2>1 3>1 4>3 5>4 6>2 7>4", 2, 6)
	for id := 1; id <= 8; id++ {
		rises(t, tree, id, "1>0 2>1 3>1 4>3 5>4 6>2 7>4")
	}
	// Who has one ahead of it stays.
	falls(t, tree, 3, "1>0 2>1 3- 4>2 5>4 6>2 7>4", 3, 4)
	rises(t, tree, 3, "1>0 2>1 3>1 4>3 5>4 6>2 7>4", 3, 4)
	falls(t, tree, 3, "1>0 2>1 3- 4>2 5>4 6>2 7>4", 3, 4)
	falls(t, tree, 4, "1>0 2>1 3- 4- 5>2 6>2 7>0", 4, 5, 7)
	rises(t, tree, 3, "1>0 2>1 3>1 4- 5>2 6>2 7>0", 3)
}

// P16.2: who falls, or rises, and has nobody above it ahead and then, did not turn; those below it did.
func TestNobodyAbove(t *testing.T) {
	tree := made(t, nodes{at(0), at(1, 1), at(2, 2), at(3, 3)})
	falls(t, tree, 2, "1>0 2- 3>0 4>3", 2, 3)
	falls(t, tree, 3, "1>0 2- 3- 4>0", 4)
	rises(t, tree, 3, "1>0 2- 3>0 4>3", 4)
	rises(t, tree, 2, "1>0 2>1 3>2 4>3", 2, 3)
}
