package rule

import (
	"slices"

	"treenail/api"
	"treenail/net"
)

// rules are those of a node; a Start has none.
func rules(n api.Net, i int) []Rule {
	ins, outs := net.Ins(n, i), net.Outs(n, i)
	switch n.Nodes[i].Kind {
	case api.Task, api.Assign, api.And, api.End:
		return []Rule{lay(Free, i, ins, outs...)}
	case api.Catch:
		return []Rule{lay(Wait, i, ins, outs...)}
	case api.Event:
		return each(outs, func(f int) Rule { return lay(Wait, i, ins, net.Outs(n, n.Flows[f].To)...) })
	case api.Xor:
		if len(outs) > 1 {
			return each(outs, func(f int) Rule { return lay(Cond, i, ins, f) })
		}
		return each(ins, func(f int) Rule { return lay(Free, i, []int{f}, outs...) })
	}
	return nil
}

// lay is a rule with lists of its own: several rules of a node need, or give, the same.
func lay(kind, node int, needs []int, gives ...int) Rule {
	return Rule{Kind: kind, Node: node, Needs: slices.Clone(needs), Gives: slices.Clone(gives)}
}

// each is a rule by each of these flows.
func each(flows []int, by func(f int) Rule) []Rule {
	var l []Rule
	for _, f := range flows {
		l = append(l, by(f))
	}
	return l
}
