package check

import (
	"strings"

	"noria/payload"
)

// list is items, each of which is held against those ahead of it.
type list interface {
	size() int
	wrongAt(i int) bool
}

// faultIn is that fault, at the place of the first item that is wrong.
func faultIn(l list, word fault) error {
	for i := range l.size() {
		if l.wrongAt(i) {
			return placed{i, word}
		}
	}
	return nil
}

// ruleList is the rules of a route.
type ruleList []payload.Rule

func (l ruleList) size() int { return len(l) }

// wrongAt is true also of a rule that can't ever be come to, as an earlier one takes all that it would take.
func (l ruleList) wrongAt(i int) bool {
	r := l[i]
	if !strings.HasPrefix(r.Prefix, "/") || !Name(r.Cluster) {
		return true
	}
	for _, earlier := range l[:i] {
		if strings.HasPrefix(r.Prefix, earlier.Prefix) {
			return true
		}
	}
	return false
}

// spot is where an address is: its weight aside.
type spot struct {
	host string
	port uint64
}

// addrList is the addresses of an endpoint, and of each spot the place of the first that is there.
type addrList struct {
	addrs []payload.Addr
	first map[spot]int
}

func addrsOf(l []payload.Addr) addrList {
	first := map[spot]int{}
	for i, a := range l {
		if _, there := first[spotOf(a)]; !there {
			first[spotOf(a)] = i
		}
	}
	return addrList{l, first}
}

func spotOf(a payload.Addr) spot { return spot{a.Host, a.Port} }

func (l addrList) size() int { return len(l.addrs) }

func (l addrList) wrongAt(i int) bool {
	a := l.addrs[i]
	return !Name(a.Host) || !isPort(a.Port) || l.first[spotOf(a)] < i
}
