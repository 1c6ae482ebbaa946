// Package sample makes processes, blocks, webs and programs for the tests of the layers. Whoever calls it picks: pick(n) is a number from 0 to n - 1.
package sample

import "treenail/api"

// Net is a process that keeps all rules, of blocks in one another, its nodes and flows in any order.
func Net(pick func(int) int) api.Net {
	for {
		b := builder{pick: pick, room: pick(api.MaxNodes - 1)}
		start := b.node(api.Start)
		in, out := b.run()
		end := b.node(api.End)
		b.link(start, in)
		b.link(out, end)
		if len(b.net.Nodes) <= api.MaxNodes && len(b.net.Flows) <= api.MaxFlows {
			return Choices(Shuffle(b.net, pick), pick)
		}
	}
}

// Shuffle is the process with its nodes and its flows in another order.
func Shuffle(n api.Net, pick func(int) int) api.Net {
	to := order(len(n.Nodes), pick)
	m := api.Net{Nodes: make([]api.Node, len(n.Nodes)), Flows: make([]api.Flow, len(n.Flows))}
	for i, x := range n.Nodes {
		m.Nodes[to[i]] = x
	}
	for i, at := range order(len(n.Flows), pick) {
		f := n.Flows[i]
		f.From, f.To = to[f.From], to[f.To]
		m.Flows[at] = f
	}
	return m
}

// Choices is the process with other conditions at its splitting Xors, and none elsewhere.
func Choices(n api.Net, pick func(int) int) api.Net {
	m := api.Net{Nodes: n.Nodes}
	outs := make([][]int, len(n.Nodes))
	for i, f := range n.Flows {
		outs[f.From] = append(outs[f.From], i)
		m.Flows = append(m.Flows, api.Flow{From: f.From, To: f.To})
	}
	for i, x := range n.Nodes {
		if x.Kind != api.Xor || len(outs[i]) < 2 {
			continue
		}
		for _, f := range outs[i] {
			m.Flows[f].Cond = Truth(pick, 3)
		}
		other := &m.Flows[outs[i][pick(len(outs[i]))]]
		other.Else, other.Cond = true, api.Term{}
	}
	return m
}

// Number is a term that is a number, at most so many levels deep.
func Number(pick func(int) int, levels int) api.Term {
	switch k := pick(5); {
	case levels > 1 && k == 0:
		return api.Term{Op: api.OpNeg, Kids: []api.Term{Number(pick, levels-1)}}
	case levels > 1 && k < 3:
		return api.Term{Op: api.OpAdd + pick(5), Kids: []api.Term{Number(pick, levels-1), Number(pick, levels-1)}}
	case k == 3:
		return api.Term{Op: api.OpNum, N: pick(4)}
	}
	return api.Term{Op: api.OpVar, N: pick(api.Vars)}
}

// Truth is a term that is a truth, at most so many levels deep, and two at least.
func Truth(pick func(int) int, levels int) api.Term {
	switch k := pick(6); {
	case levels > 2 && k == 0:
		return api.Term{Op: api.OpNot, Kids: []api.Term{Truth(pick, levels-1)}}
	case levels > 2 && k < 3:
		return api.Term{Op: api.OpAnd + pick(2), Kids: []api.Term{Truth(pick, levels-1), Truth(pick, levels-1)}}
	}
	return api.Term{Op: api.OpEq + pick(3), Kids: []api.Term{Number(pick, levels-1), Number(pick, levels-1)}}
}

// order is the numbers from 0 on, so many, in any order.
func order(count int, pick func(int) int) []int {
	l := make([]int, count)
	for i := range l {
		j := pick(i + 1)
		l[i], l[j] = l[j], i
	}
	return l
}
