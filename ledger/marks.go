package ledger

import (
	"cmp"
	"slices"
	"sort"
	"strings"

	"noria/api"
	"noria/check"
)

// isPending tells whether nothing is known yet of m.
func isPending(m Mark) bool { return m.State == Pending }

// find is where the mark of that version stands; false, and where it is to stand, if there is none.
func (l *Ledger) find(k api.Key, seq uint64) (int, bool) {
	return sort.Find(len(l.marks), func(i int) int {
		m := l.marks[i]
		return cmp.Or(check.Order(k, m.Key), cmp.Compare(seq, m.Seq))
	})
}

// settle gives that State and Detail to those of the marks meant that are Pending.
func (l *Ledger) settle(meant func(m Mark) bool, state int, detail string) {
	for i, m := range l.marks {
		if isPending(m) && meant(m) {
			l.marks[i].State, l.marks[i].Detail = state, strings.Clone(detail)
		}
	}
}

// dropOldest takes away the mark with the least Seq, of the same Seq the first by Order.
func (l *Ledger) dropOldest() {
	// Of the same Seq MinFunc tells the one that stands first.
	oldest := slices.MinFunc(l.marks, func(a, b Mark) int { return cmp.Compare(a.Seq, b.Seq) })
	l.marks = slices.DeleteFunc(l.marks, func(m Mark) bool { return m == oldest })
}
