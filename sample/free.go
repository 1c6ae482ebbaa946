package sample

import (
	"slices"
	"strconv"
	"strings"

	"treenail/api"
)

// Of is a process whose nodes are letters (s and e are the Start and the End, t a Task, a an Assign, x an Xor, n an And, v an Event, m a Catch of
// the message 0, c one of a timer), and whose flows are written as 0-1 1-2. Its choices are free; the last out of each is Else.
func Of(nodes, flows string) api.Net {
	var n api.Net
	for _, letter := range nodes {
		n.Nodes = append(n.Nodes, named(letter))
	}
	last := make([]int, len(n.Nodes))
	for i, f := range strings.Fields(flows) {
		from, to, _ := strings.Cut(f, "-")
		n.Flows = append(n.Flows, api.Flow{From: whole(from), To: whole(to)})
		last[whole(from)] = i
	}
	for i, x := range n.Nodes {
		if x.Kind == api.Xor && splits(n, i) {
			n.Flows[last[i]].Else = true
		}
	}
	return Free(n)
}

// Free is the process with free choices: the variable 0 is the flow that is taken (the Else one, if it is none of the others), and no Assign is a fault.
func Free(n api.Net) api.Net {
	m := api.Net{Nodes: slices.Clone(n.Nodes), Flows: slices.Clone(n.Flows)}
	for i, x := range m.Nodes {
		if x.Kind == api.Assign {
			m.Nodes[i].Term = api.Term{Op: api.OpNum}
		}
	}
	for i, f := range m.Flows {
		if n.Nodes[f.From].Kind == api.Xor && splits(n, f.From) && !f.Else {
			m.Flows[i].Cond = api.Term{Op: api.OpEq, Kids: []api.Term{{Op: api.OpVar}, {Op: api.OpNum, N: i}}}
		}
	}
	return m
}

func named(letter rune) api.Node {
	switch letter {
	case 's':
		return api.Node{Kind: api.Start}
	case 'e':
		return api.Node{Kind: api.End}
	case 't':
		return api.Node{Kind: api.Task}
	case 'a':
		return api.Node{Kind: api.Assign}
	case 'x':
		return api.Node{Kind: api.Xor}
	case 'n':
		return api.Node{Kind: api.And}
	case 'v':
		return api.Node{Kind: api.Event}
	case 'm':
		return api.Node{Kind: api.Catch}
	case 'c':
		return api.Node{Kind: api.Catch, A: api.Msgs}
	}
	return api.Node{}
}

// splits tells whether more than one flow leads from a node.
func splits(n api.Net, i int) bool {
	outs := 0
	for _, f := range n.Flows {
		if f.From == i {
			outs++
		}
	}
	return outs > 1
}

// whole is the number that is written; 0, if it is none.
func whole(s string) int {
	n, _ := strconv.Atoi(s)
	return n
}
