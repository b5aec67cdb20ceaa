package parent_test

import (
	"math"
	"reflect"
	"runtime"
	"slices"
	"strconv"
	"testing"

	"noria/parent"
)

// deep is a copy of nodes, with spare room behind them, and behind the Cands of each, in which something stands.
func deep(l nodes) nodes {
	out := make(nodes, 0, len(l)+2)
	for _, n := range l {
		cands := append(slices.Clone(n.Cands), 1, 3)
		out = append(out, node{Depth: n.Depth, Cands: cands[:len(n.Cands)]})
	}
	return append(out, at(2, 2), at(9, 9, 9))[:len(l)]
}

// whole is nodes with all that stands behind them, and behind the Cands of each.
func whole(l nodes) nodes {
	out := slices.Clone(l[:cap(l)])
	for i, n := range out {
		out[i].Cands = slices.Clone(n.Cands[:cap(n.Cands)])
	}
	return out
}

// P3: what is handed in stays, with what stands behind it in its array, and that counts for nothing; what is done there later is seen nowhere.
func TestWhatIsHandedInStays(t *testing.T) {
	for _, l := range []nodes{some(), wide(), star(32), chain(12), {at(0)}, {at(0), at(1)}, {at(0), at(9, 1)}} {
		in := deep(l)
		before := whole(in)
		right := parent.Right(in)
		tree, _ := parent.New(in)
		if got := whole(in); !reflect.DeepEqual(got, before) {
			t.Errorf("%v became %v", before, got)
		}
		if right != plainRight(l) || right != (tree != nil) {
			t.Errorf("Right(%v) = %v, with what stands behind", l, right)
		}
		if !right {
			continue
		}
		scribble(in)
		p := newPlain(l)
		for id := 2; id <= len(l); id++ {
			tree.Fall(id)
			p.fall(id)
			same(t, tree, p)
			tree.Doubt(id+1, tree.Parent(id+1))
			p.doubt(id+1, p.parents[id+1])
			tree.Rise(id - id%2)
			p.rise(id - id%2)
			same(t, tree, p)
		}
	}
}

// scribble writes over nodes, with all that stands behind.
func scribble(l nodes) {
	l = l[:cap(l)]
	for i, n := range l {
		fill(n.Cands)
		l[i] = at(-1, 7)
	}
}

// fill writes over a list, with its spare room.
func fill(l ids) {
	l = l[:cap(l)]
	for i := range l {
		l[i] = 1 + i%2
	}
}

// P3: a list that is told is new, with its spare room: what is written there is seen nowhere else.
func TestListsAreNew(t *testing.T) {
	tree, p := made(t, wide()), newPlain(wide())
	paths, ok := tree.Path(6)
	below, fell := tree.Below(1), tree.Fall(2)
	p.fall(2)
	rose := tree.Rise(2)
	p.rise(2)
	kept := []ids{paths, below, fell, rose}
	for range 3 {
		for id := 1; id <= 7; id++ {
			path, _ := tree.Path(id)
			for _, l := range []ids{path, tree.Below(id), tree.Fall(id), tree.Rise(id)} {
				fill(l)
			}
			p.fall(id)
			p.rise(id)
			same(t, tree, p)
		}
	}
	// Nor does what was told follow what comes later.
	if want := []ids{{6, 2, 1}, {2, 3, 4, 5}, {2, 6}, {2, 6}}; !ok || !reflect.DeepEqual(kept, want) {
		t.Errorf("what was told = %v, want %v", kept, want)
	}
	for i, l := range kept {
		fill(l)
		for _, other := range kept[i+1:] {
			if len(other) < 2 || other[1] == 2 {
				t.Errorf("%v is shared", other)
			}
		}
	}
	same(t, tree, p)
}

// P1, P6: at all arguments there is an answer.
func TestEveryCallEnds(t *testing.T) {
	numbers := append(ids{1, 2, 3, 4, 5, 6, 7, 8, 9, 32, 1<<31 - 1, 1 << 31, 1 << 32, math.MaxInt - 1, math.MaxInt}, noIDs...)
	for _, a := range numbers {
		for _, b := range numbers {
			parent.Right(nodes{at(a)})
			parent.Right(nodes{at(0, b)})
			parent.Right(nodes{at(0), at(a, b), at(b, a)})
			parent.New(nodes{at(0), at(1, a, b), at(2, numbers...)})
		}
	}
	parent.Right(make(nodes, 1<<20))
	parent.Right(nodes{at(0), {1, make(ids, 1<<20)}})
	for _, l := range []nodes{some(), wide(), chain(32), star(32), {at(0)}} {
		tree := made(t, l)
		for range 3 {
			for _, id := range numbers {
				for _, of := range numbers {
					tree.Doubt(id, of)
				}
				tree.Parent(id)
				tree.Below(id)
				tree.Up(id)
				tree.Path(id)
				tree.Text()
				tree.Fall(id)
			}
			for _, id := range numbers {
				tree.Rise(id)
				tree.Rise(id / 2)
			}
		}
		if !tree.Up(1) {
			t.Error("the root fell")
		}
	}
}

// tell is what a tree answers to calls that are always the same.
func tell() (l []string) {
	list := func(ids ids) {
		for _, id := range ids {
			l = append(l, strconv.Itoa(id))
		}
	}
	tree, _ := parent.New(wide())
	for i := range 2000 {
		id := 1 + i*i*7%11
		list(tree.Fall(id))
		list(tree.Rise(1 + i*5%7))
		for of := range 8 {
			l = append(l, strconv.FormatBool(tree.Doubt(6+i%2, of)))
		}
		path, ok := tree.Path(id)
		list(path)
		list(tree.Below(id))
		l = append(l, strconv.FormatBool(ok), tree.Text())
	}
	return l
}

// P4: the same calls are answered the same, not by the order of a map; trees don't meet one another, one behind the other or at one time.
func TestSameAnswers(t *testing.T) {
	want := tell()
	if len(want) < 10000 {
		t.Fatal(len(want))
	}
	done := make(chan bool)
	for range 8 {
		go func() {
			same := true
			for range 5 {
				same = same && slices.Equal(tell(), want)
			}
			done <- same
		}()
	}
	for range 8 {
		if !<-done {
			t.Error("another answer")
		}
	}
}

// No more is kept than the nodes, and whom they doubt now, however long the calls go on.
func TestLittleIsKept(t *testing.T) {
	const many = 50
	all := make([]*parent.Tree, many)
	before := inUse()
	for i := range all {
		tree := made(t, wide())
		for n := range 2000 {
			id := 2 + n%6
			tree.Doubt(id, tree.Parent(id))
			if n%7 == 0 {
				tree.Fall(id)
				tree.Rise(2 + n%5)
			}
		}
		all[i] = tree
	}
	if after := inUse(); after > before+many*5_000 {
		t.Errorf("%d bytes are kept of each", (after-before)/many)
	}
	runtime.KeepAlive(all)
}

// inUse is how many bytes are in use.
func inUse() uint64 {
	var m runtime.MemStats
	runtime.GC()
	runtime.ReadMemStats(&m)
	return m.HeapAlloc
}
