package parent_test

import (
	"fmt"
	"math/rand"
	"slices"
	"strings"
	"testing"

	"noria/api"
	"noria/parent"
)

// pair is who doubts, and who is doubted.
type pair struct{ id, of int }

// plainTree is the chapter's: who chose whom, and chooses again just where the chapter says so.
type plainTree struct {
	l       nodes
	down    map[int]bool
	parents map[int]int
	doubts  map[pair]bool
}

func newPlain(l nodes) *plainTree {
	p := &plainTree{l, map[int]bool{}, map[int]int{}, map[pair]bool{}}
	for id := 1; id <= len(l); id++ {
		p.choose(id)
	}
	return p
}

func (p *plainTree) up(id int) bool { return id >= 1 && id <= len(p.l) && !p.down[id] }

func (p *plainTree) choose(id int) {
	p.parents[id] = 0
	for _, c := range slices.Backward(p.l[id-1].Cands) {
		if p.up(c) && !p.doubts[pair{id, c}] {
			p.parents[id] = c
		}
	}
}

func (p *plainTree) below(id int) (l ids) {
	for other := 1; other <= len(p.l); other++ {
		if id > 0 && p.parents[other] == id {
			l = append(l, other)
		}
	}
	return l
}

// trust ends the doubts of that one, or those of it by others.
func (p *plainTree) trust(by, of int) {
	for d := range p.doubts {
		if d.id == by || d.of == of {
			delete(p.doubts, d)
		}
	}
}

// turned is those whose Parent is another one than it was.
func (p *plainTree) turned(act func()) (l ids) {
	before := map[int]int{}
	for id, of := range p.parents {
		before[id] = of
	}
	act()
	for id := 1; id <= len(p.l); id++ {
		if p.parents[id] != before[id] {
			l = append(l, id)
		}
	}
	return l
}

func (p *plainTree) fall(id int) ids {
	if !p.up(id) || id == 1 {
		return nil
	}
	return p.turned(func() {
		p.down[id] = true
		p.parents[id] = 0
		p.trust(id, 0)
		for _, other := range p.below(id) {
			p.choose(other)
		}
	})
}

func (p *plainTree) rise(id int) ids {
	if id < 1 || id > len(p.l) || p.up(id) {
		return nil
	}
	return p.turned(func() {
		delete(p.down, id)
		p.choose(id)
		p.trust(0, id)
		for other, n := range p.l {
			has := p.parents[other+1]
			place := slices.Index(n.Cands, id)
			if p.up(other+1) && (has == 0 || place >= 0 && slices.Index(n.Cands, has) > place) {
				p.choose(other + 1)
			}
		}
	})
}

func (p *plainTree) doubt(id, of int) bool {
	if !p.up(id) || !p.up(of) || p.parents[id] != of {
		return false
	}
	p.doubts[pair{id, of}] = true
	p.choose(id)
	if p.parents[id] == 0 {
		p.trust(id, 0)
		p.choose(id)
	}
	return true
}

func (p *plainTree) path(id int) (ids, bool) {
	if !p.up(id) {
		return nil, false
	}
	if id == 1 {
		return ids{1}, true
	}
	l, ok := p.path(p.parents[id])
	return append(ids{id}, l...), ok
}

func (p *plainTree) text() string {
	var l []string
	for id := 1; id <= len(p.l); id++ {
		if p.up(id) {
			l = append(l, fmt.Sprintf("%d>%d", id, p.parents[id]))
		} else {
			l = append(l, fmt.Sprintf("%d-", id))
		}
	}
	return strings.Join(l, " ")
}

func plainRight(l nodes) bool {
	if len(l) == 0 || len(l) > 32 {
		return false
	}
	for i, n := range l {
		often := map[int]int{}
		for _, c := range n.Cands {
			often[c]++
			if c < 1 || c > len(l) || l[c-1].Depth >= n.Depth || often[c] > 1 {
				return false
			}
		}
		root := n.Depth == 0 && len(often) == 0
		other := n.Depth >= 1 && n.Depth <= 8 && len(often) >= 1 && len(often) <= 8
		if root != (i == 0) || !root && !other {
			return false
		}
	}
	return true
}

// drawn is nodes, so many, of Depths to that; mostly each may stand below many.
func drawn(r *rand.Rand, n, deepest int) nodes {
	l := nodes{at(0)}
	for len(l) < n {
		l = append(l, at(1+r.Intn(deepest)))
	}
	for i := 1; i < n; i++ {
		for _, c := range r.Perm(n) {
			if l[c].Depth < l[i].Depth && len(l[i].Cands) < 1+r.Intn(8) {
				l[i].Cands = append(l[i].Cands, c+1)
			}
		}
		if len(l[i].Cands) == 0 {
			l[i].Cands = ids{1}
		}
	}
	return l
}

// step does one thing to both, and tells what it was.
func step(t *testing.T, r *rand.Rand, tree *parent.Tree, p *plainTree) string {
	t.Helper()
	id := r.Intn(len(p.l)+2) - r.Intn(2)
	if r.Intn(50) == 0 {
		id = noIDs[r.Intn(len(noIDs))]
	}
	var got, want ids
	what := "rise"
	switch r.Intn(4) {
	case 0:
		what = "fall"
		got, want = tree.Fall(id), p.fall(id)
	case 1:
		got, want = tree.Rise(id), p.rise(id)
	default:
		of := p.parents[id]
		if r.Intn(8) == 0 {
			of = r.Intn(len(p.l) + 2)
		}
		is, holds := tree.Doubt(id, of), p.doubt(id, of)
		if is != holds {
			t.Fatalf("Doubt(%d, %d) = %v", id, of, is)
		}
		return fmt.Sprint("doubt ", is)
	}
	if !slices.Equal(got, want) {
		t.Fatalf("%s of %d turns %v, want %v, of %v", what, id, got, want, p.l)
	}
	return fmt.Sprint(what, " ", min(len(got), 2))
}

// same holds what both tell against each other.
func same(t *testing.T, tree *parent.Tree, p *plainTree) {
	t.Helper()
	wantText(t, tree, p.text())
	for id := -1; id <= len(p.l)+1; id++ {
		if tree.Up(id) != p.up(id) || tree.Parent(id) != p.parents[id] {
			t.Errorf("%d: %v, %d, want %v, %d", id, tree.Up(id), tree.Parent(id), p.up(id), p.parents[id])
		}
		wantBelow(t, tree, id, p.below(id)...)
		path, ok := p.path(id)
		wantPath(t, tree, id, ok, path...)
	}
	if t.Failed() {
		t.FailNow()
	}
}

// P16.2, P16.3: held against a plain one, call by call: few nodes, and many, deep and wide.
func TestPlainly(t *testing.T) {
	r := rand.New(rand.NewSource(1))
	for _, c := range []struct{ rounds, steps, nodes, deepest int }{
		{300, 200, 4, 3},
		{300, 200, 7, 2},
		{100, 300, 12, 8},
		{30, 300, 32, 4},
	} {
		tally := map[string]int{}
		for range c.rounds {
			l := drawn(r, c.nodes, c.deepest)
			tree, p := made(t, l), newPlain(l)
			same(t, tree, p)
			for range c.steps {
				tally[step(t, r, tree, p)]++
				same(t, tree, p)
			}
		}
		for _, what := range []string{"fall 0", "fall 1", "fall 2", "rise 0", "rise 1", "rise 2", "doubt true", "doubt false"} {
			if tally[what] < 50 {
				t.Errorf("%q came %d times of %v: %v", what, tally[what], c, tally)
			}
		}
	}
}

// P16.1: nodes that are right, or nearly so, are held against a plain Right.
func TestRightPlainly(t *testing.T) {
	r := rand.New(rand.NewSource(2))
	tally := map[bool]int{}
	for range 30000 {
		l := drawn(r, 1+r.Intn(10), 1+r.Intn(8))
		n := &l[r.Intn(len(l))]
		switch r.Intn(4) {
		case 0:
			n.Depth = r.Intn(11) - 1
		case 1:
			n.Cands = append(n.Cands, r.Intn(len(l)+2))
		case 2:
			if len(n.Cands) > 0 {
				n.Cands[r.Intn(len(n.Cands))] = r.Intn(len(l)+3) - 1
			}
		case 3:
			n.Cands = n.Cands[r.Intn(len(n.Cands)+1):]
		}
		got, want := parent.Right(l), plainRight(l)
		if got != want {
			t.Fatalf("Right(%v) = %v", l, got)
		}
		tally[got]++
		if tree, errno := parent.New(l); (tree != nil) != want || (errno == api.OK) != want || !want && errno != api.ErrArg {
			t.Fatalf("New(%v) = %v, %d", l, tree, errno)
		}
	}
	if tally[true] < 3000 || tally[false] < 3000 {
		t.Error(tally)
	}
}

// above is those who stand above a node, one above the other; it is false, where there are more than there are nodes.
func above(tree *parent.Tree, id int) (l ids, ok bool) {
	for at := tree.Parent(id); at != 0; at = tree.Parent(at) {
		l = append(l, at)
		if len(l) > api.MaxNodes {
			return l, false
		}
	}
	return l, true
}

// P16.4: nobody stands above itself, whatever falls and rises: who stands above another one is up, is one of its Cands, and stands less deep.
func TestNobodyAboveItself(t *testing.T) {
	r := rand.New(rand.NewSource(3))
	stood := 0
	for range 100 {
		l := drawn(r, 2+r.Intn(31), 1+r.Intn(8))
		tree := made(t, l)
		for range 200 {
			id := r.Intn(len(l) + 2)
			switch r.Intn(3) {
			case 0:
				tree.Fall(id)
			case 1:
				tree.Rise(id)
			case 2:
				tree.Doubt(id, tree.Parent(id))
			}
			for id := 1; id <= len(l); id++ {
				up, ok := above(tree, id)
				if !ok || slices.Contains(up, id) {
					t.Fatalf("above %d stand %v", id, up)
				}
				stood += len(up)
				if p := tree.Parent(id); p != 0 && (!tree.Up(p) || !tree.Up(id) || !slices.Contains(l[id-1].Cands, p) || l[p-1].Depth >= l[id-1].Depth) {
					t.Fatalf("%d stands above %d, of %v", p, id, l)
				}
			}
		}
	}
	if stood < 100000 {
		t.Error(stood)
	}
}
