package parent_test

import (
	"testing"

	"noria/parent"
)

// wide is a root (1), four relays (2 to 5), and two that may choose among these (6, 7), the one from the last.
func wide() []parent.Node {
	return nodes{at(0), at(1, 1), at(1, 1), at(1, 1), at(1, 1), at(2, 2, 3, 4, 5), at(2, 5, 4, 3, 2)}
}

const wideText = "1>0 2>1 3>1 4>1 5>1 6>2 7>5"

// P16.2: who doubts its Parent chooses another one, and doubts no less what it doubted ahead; others don't doubt for that.
func TestDoubt(t *testing.T) {
	tree := made(t, wide())
	doubts(t, tree, 6, 2, "1>0 2>1 3>1 4>1 5>1 6>3 7>5")
	doubts(t, tree, 6, 3, "1>0 2>1 3>1 4>1 5>1 6>4 7>5")
	doubts(t, tree, 7, 5, "1>0 2>1 3>1 4>1 5>1 6>4 7>4")
	doubts(t, tree, 7, 4, "1>0 2>1 3>1 4>1 5>1 6>4 7>3")
	doubts(t, tree, 7, 3, "1>0 2>1 3>1 4>1 5>1 6>4 7>2")
	doubts(t, tree, 6, 4, "1>0 2>1 3>1 4>1 5>1 6>5 7>2")
	wantBelow(t, tree, 5, 6)
	wantBelow(t, tree, 2, 7)
	wantPath(t, tree, 6, true, 6, 5, 1)
}

// P16.2: who would have nobody left doubts nobody any more, and chooses then.
func TestDoubtOfTheLast(t *testing.T) {
	tree := made(t, wide())
	for range 3 {
		doubts(t, tree, 7, 5, "1>0 2>1 3>1 4>1 5>1 6>2 7>4")
		doubts(t, tree, 6, 2, "1>0 2>1 3>1 4>1 5>1 6>3 7>4")
		doubts(t, tree, 6, 3, "1>0 2>1 3>1 4>1 5>1 6>4 7>4")
		doubts(t, tree, 6, 4, "1>0 2>1 3>1 4>1 5>1 6>5 7>4")
		// Just the one that has nobody left trusts all again.
		doubts(t, tree, 6, 5, "1>0 2>1 3>1 4>1 5>1 6>2 7>4")
		doubts(t, tree, 7, 4, "1>0 2>1 3>1 4>1 5>1 6>2 7>3")
		doubts(t, tree, 7, 3, "1>0 2>1 3>1 4>1 5>1 6>2 7>2")
		doubts(t, tree, 7, 2, wideText)
		// Who has but one chooses it again.
		doubts(t, tree, 4, 1, wideText)
	}
	// Nor is one left that is not up.
	falls(t, tree, 3, "1>0 2>1 3- 4>1 5>1 6>2 7>5", 3)
	falls(t, tree, 4, "1>0 2>1 3- 4- 5>1 6>2 7>5", 4)
	doubts(t, tree, 6, 2, "1>0 2>1 3- 4- 5>1 6>5 7>5")
	doubts(t, tree, 6, 5, "1>0 2>1 3- 4- 5>1 6>2 7>5")
	falls(t, tree, 2, "1>0 2- 3- 4- 5>1 6>5 7>5", 2, 6)
	doubts(t, tree, 6, 5, "1>0 2- 3- 4- 5>1 6>5 7>5")
}

// P16.2: a doubt does not hold of one that is not the Parent, nor of or for one that is not up; nothing changes.
func TestNoDoubt(t *testing.T) {
	tree := made(t, wide())
	falls(t, tree, 3, "1>0 2>1 3- 4>1 5>1 6>2 7>5", 3)
	doubts(t, tree, 6, 2, "1>0 2>1 3- 4>1 5>1 6>4 7>5")
	text := tree.Text()
	for id := -1; id <= 9; id++ {
		for of := -1; of <= 9; of++ {
			if of > 0 && of == tree.Parent(id) {
				continue
			}
			if tree.Doubt(id, of) {
				t.Errorf("Doubt(%d, %d) holds", id, of)
			}
			wantText(t, tree, text)
		}
	}
	// What did not hold is no doubt later on.
	rises(t, tree, 3, "1>0 2>1 3>1 4>1 5>1 6>3 7>5", 3, 6)
	falls(t, tree, 5, "1>0 2>1 3>1 4>1 5- 6>3 7>4", 5, 7)
}

// P16.2: while who is doubted is up it is not chosen, whoever falls, or rises: be it that there is nobody else.
func TestDoubtStays(t *testing.T) {
	tree := made(t, wide())
	doubts(t, tree, 6, 2, "1>0 2>1 3>1 4>1 5>1 6>3 7>5")
	falls(t, tree, 3, "1>0 2>1 3- 4>1 5>1 6>4 7>5", 3, 6)
	falls(t, tree, 5, "1>0 2>1 3- 4>1 5- 6>4 7>4", 5, 7)
	falls(t, tree, 4, "1>0 2>1 3- 4- 5- 6>0 7>2", 4, 6, 7)
	wantPath(t, tree, 6, false, 6)
	falls(t, tree, 7, "1>0 2>1 3- 4- 5- 6>0 7-", 7)
	rises(t, tree, 7, "1>0 2>1 3- 4- 5- 6>0 7>2", 7)
	if tree.Doubt(6, 2) || tree.Doubt(6, 0) {
		t.Error("6 has nobody to doubt")
	}
	rises(t, tree, 5, "1>0 2>1 3- 4- 5>1 6>5 7>5", 5, 6, 7)
	rises(t, tree, 3, "1>0 2>1 3>1 4- 5>1 6>3 7>5", 3, 6)
	falls(t, tree, 3, "1>0 2>1 3- 4- 5>1 6>5 7>5", 3, 6)
}

// P16.2: nobody doubts who rose; others are doubted as they were.
func TestRiseEndsDoubtOfIt(t *testing.T) {
	tree := made(t, wide())
	doubts(t, tree, 6, 2, "1>0 2>1 3>1 4>1 5>1 6>3 7>5")
	doubts(t, tree, 6, 3, "1>0 2>1 3>1 4>1 5>1 6>4 7>5")
	doubts(t, tree, 7, 5, "1>0 2>1 3>1 4>1 5>1 6>4 7>4")
	doubts(t, tree, 7, 4, "1>0 2>1 3>1 4>1 5>1 6>4 7>3")
	falls(t, tree, 3, "1>0 2>1 3- 4>1 5>1 6>4 7>2", 3, 7)
	rises(t, tree, 3, "1>0 2>1 3>1 4>1 5>1 6>3 7>3", 3, 6, 7)
	falls(t, tree, 4, "1>0 2>1 3>1 4- 5>1 6>3 7>3", 4)
	rises(t, tree, 4, "1>0 2>1 3>1 4>1 5>1 6>3 7>4", 4, 7)
	falls(t, tree, 2, "1>0 2- 3>1 4>1 5>1 6>3 7>4", 2)
	rises(t, tree, 2, "1>0 2>1 3>1 4>1 5>1 6>2 7>4", 2, 6)
	falls(t, tree, 5, "1>0 2>1 3>1 4>1 5- 6>2 7>4", 5)
	rises(t, tree, 5, wideText, 5, 7)
}

// P16.2: who fell doubts nobody any more; others doubt as they did.
func TestFallEndsItsDoubts(t *testing.T) {
	tree := made(t, wide())
	doubts(t, tree, 6, 2, "1>0 2>1 3>1 4>1 5>1 6>3 7>5")
	doubts(t, tree, 6, 3, "1>0 2>1 3>1 4>1 5>1 6>4 7>5")
	doubts(t, tree, 7, 5, "1>0 2>1 3>1 4>1 5>1 6>4 7>4")
	falls(t, tree, 6, "1>0 2>1 3>1 4>1 5>1 6- 7>4", 6)
	if tree.Doubt(6, 4) || tree.Doubt(6, 2) {
		t.Error("6 is not up, and doubts")
	}
	rises(t, tree, 6, "1>0 2>1 3>1 4>1 5>1 6>2 7>4", 6)
	doubts(t, tree, 6, 2, "1>0 2>1 3>1 4>1 5>1 6>3 7>4")
	falls(t, tree, 7, "1>0 2>1 3>1 4>1 5>1 6>3 7-", 7)
	rises(t, tree, 7, "1>0 2>1 3>1 4>1 5>1 6>3 7>5", 7)
}

// P16.3: a path leads up to the root, or as far as it goes.
func TestPath(t *testing.T) {
	tree := made(t, some())
	for id, want := range []ids{nil, {1}, {2, 1}, {3, 1}, {4, 3, 1}, {5, 4, 3, 1}, {6, 2, 1}, {7, 4, 3, 1}} {
		wantPath(t, tree, id, id > 0, want...)
	}
	tree.Fall(3)
	wantPath(t, tree, 5, true, 5, 4, 2, 1)
	tree.Fall(2)
	for id, want := range []ids{nil, {1}, nil, nil, {4}, {5, 4}, {6, 1}, {7, 4}} {
		wantPath(t, tree, id, id == 1 || id == 6, want...)
	}
	tree.Fall(4)
	for id, want := range []ids{nil, {1}, nil, nil, nil, {5}, {6, 1}, {7}} {
		wantPath(t, tree, id, id == 1 || id == 6, want...)
	}
	deep := made(t, chain(9))
	wantPath(t, deep, 9, true, 9, 8, 7, 6, 5, 4, 3, 2, 1)
	deep.Fall(2)
	wantPath(t, deep, 9, false, 9, 8, 7, 6, 5, 4, 3)
	wantPath(t, deep, 2, false)
}

// P16.3: the Text has each node, in digits.
func TestText(t *testing.T) {
	tree := made(t, chain(12))
	wantText(t, tree, "1>0 2>1 3>2 4>3 5>4 6>5 7>6 8>7 9>8 10>8 11>8 12>8")
	tree.Fall(11)
	wantText(t, tree, "1>0 2>1 3>2 4>3 5>4 6>5 7>6 8>7 9>8 10>8 11- 12>8")
	tree.Fall(8)
	wantText(t, tree, "1>0 2>1 3>2 4>3 5>4 6>5 7>6 8- 9>0 10>0 11- 12>0")
	far := star(32)
	far[31] = at(2, 31, 30)
	tree = made(t, far)
	if text := tree.Text(); text[len(text)-len(" 31>1 32>31"):] != " 31>1 32>31" {
		t.Error(text)
	}
}
