package sample

import (
	"slices"

	"treenail/api"
	"treenail/net"
)

// Crossed is a process that keeps all rules, whose blocks need not lie in one another: ways cross, and a fork may be joined by a choice.
func Crossed(pick func(int) int) api.Net {
	n := Net(pick)
	for range 1 + pick(8) {
		m := bent(n, pick)
		if rule, _ := net.Check(m); rule == 0 {
			n = m
		}
	}
	return n
}

// bent is the process with two flows crossed, or with a choice for a fork, or the other way round.
func bent(n api.Net, pick func(int) int) api.Net {
	m := api.Net{Nodes: slices.Clone(n.Nodes), Flows: slices.Clone(n.Flows)}
	if pick(2) == 0 {
		f, g := &m.Flows[pick(len(m.Flows))], &m.Flows[pick(len(m.Flows))]
		f.To, g.To = g.To, f.To
		return Choices(m, pick)
	}
	x := &m.Nodes[pick(len(m.Nodes))]
	switch x.Kind {
	case api.Xor:
		x.Kind = api.And
	case api.And:
		x.Kind = api.Xor
	}
	return Choices(m, pick)
}
