package check

import (
	"noria/api"
	"noria/payload"
)

// The limits of what a payload has.
const (
	maxPort   = 1<<16 - 1
	maxPolicy = 2
	minKey    = 16
	maxKey    = 64
	maxWeight = 1<<32 - 1
)

// held is a payload that a key of the same name holds.
type held payload.Payload

// firstWrong is the first thing that is wrong with a body that k is to hold.
func firstWrong(k api.Key, body string) error {
	if len(body) > api.MaxBody {
		return fault("size")
	}
	p, ok := payload.Get(k.Type, body)
	if !ok {
		return fault("form")
	}
	if p.Name != k.Name {
		return fault("name")
	}
	for _, look := range looksOf(k.Type) {
		if err := look(held(p)); err != nil {
			return err
		}
	}
	return nil
}

// looksOf is what a payload of that type is looked at for, in the order in which it is told.
func looksOf(kind int) []func(held) error {
	switch kind {
	case api.Listener:
		return []func(held) error{held.port, held.route}
	case api.Route:
		return []func(held) error{held.anyRule, held.eachRule}
	case api.Cluster:
		return []func(held) error{held.policy, held.secret}
	case api.Endpoint:
		return []func(held) error{held.eachAddr, held.weight}
	case api.Secret:
		return []func(held) error{held.key}
	}
	return nil
}

func (h held) port() error { return faultIf(!isPort(h.Port), "port") }

func (h held) route() error { return faultIf(!Name(h.Route), "route") }

func (h held) anyRule() error { return faultIf(len(h.Rules) == 0, "rules") }

func (h held) eachRule() error { return faultIn(ruleList(h.Rules), "rule") }

func (h held) policy() error { return faultIf(h.Policy > maxPolicy, "policy") }

func (h held) secret() error { return faultIf(h.Secret != "" && !Name(h.Secret), "secret") }

func (h held) eachAddr() error { return faultIn(addrsOf(h.Addrs), "addr") }

func (h held) weight() error { return faultIf(weightOf(h.Addrs) > maxWeight, "weight") }

func (h held) key() error {
	return faultIf(len(h.Key) < minKey || len(h.Key) > maxKey, "key")
}

func isPort(n uint64) bool { return n >= 1 && n <= maxPort }

// weightOf is the weights together, where one that is too great alone counts as the least of these, so that the sum does not wrap.
func weightOf(l []payload.Addr) uint64 {
	sum := uint64(0)
	for _, a := range l {
		sum += min(a.Weight, maxWeight+1)
	}
	return sum
}
