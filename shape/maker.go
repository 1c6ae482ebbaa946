package shape

import (
	"slices"

	"treenail/api"
	"treenail/block"
	"treenail/bpel"
	"treenail/nest"
	"treenail/net"
)

// What a gate does: its A.
const (
	splitsAll = 1 + iota
	joinsAll
	splitsOne
	joinsOne
)

// maker makes programs of blocks of a process, which it is.
type maker struct{ api.Net }

// hasEvent tells whether a Gate of an Event is among blocks.
func (m maker) hasEvent(blocks []block.Block) bool {
	return slices.ContainsFunc(blocks, func(b block.Block) bool { return b.Kind == block.Gate && m.Nodes[b.Node].Kind == api.Event })
}

// act is the program of a block.
func (m maker) act(b block.Block) bpel.Act {
	switch b.Kind {
	case block.Leaf:
		return m.leaf(b.Node)
	case block.Gate:
		return m.gate(b.Node)
	case block.Rules:
		return bpel.Act{Kind: bpel.Rules, Net: net.Copy(m.Net)}
	}
	kids := m.acts(b.Kids)
	switch b.Kind {
	case block.Seq:
		return bpel.Act{Kind: bpel.Sequence, Kids: kids}
	case block.Par:
		return bpel.Act{Kind: bpel.Flow, Kids: kids}
	case block.Alt:
		conds, other := m.choice(b.Node)
		return bpel.Act{Kind: bpel.If, Node: b.Node, A: other, Conds: conds, Kids: kids}
	case block.Pick:
		return bpel.Act{Kind: bpel.Pick, Node: b.Node, Kids: m.ons(b.Node, kids)}
	case block.Loop:
		conds, other := m.choice(b.Node)
		return bpel.Act{Kind: bpel.Loop, Node: b.Node, A: other, B: b.Arg, Conds: conds, Kids: kids}
	case block.Web:
		return bpel.Act{Kind: bpel.Web, Kids: kids, Links: links(b.Links)}
	}
	return bpel.Act{Kind: bpel.Empty}
}

func (m maker) acts(blocks []block.Block) []bpel.Act {
	var l []bpel.Act
	for _, b := range blocks {
		l = append(l, m.act(b))
	}
	return l
}

// leaf is the program of a Task, Assign or Catch.
func (m maker) leaf(node int) bpel.Act {
	x := m.Nodes[node]
	switch {
	case x.Kind == api.Task:
		return bpel.Act{Kind: bpel.Invoke, Node: node, A: x.A}
	case x.Kind == api.Assign:
		return bpel.Act{Kind: bpel.Assign, Node: node, A: x.A, Term: own(x.Term)}
	case x.A == api.Msgs:
		return bpel.Act{Kind: bpel.Wait, Node: node}
	}
	return bpel.Act{Kind: bpel.Receive, Node: node, A: x.A}
}

// gate is the program of an Xor or And.
func (m maker) gate(node int) bpel.Act {
	a := bpel.Act{Kind: bpel.Gate, Node: node}
	isAnd, splits := m.Nodes[node].Kind == api.And, len(net.Outs(m.Net, node)) > 1
	switch {
	case isAnd && splits:
		a.A = splitsAll
	case isAnd:
		a.A = joinsAll
	case splits:
		a.A = splitsOne
		a.Conds, a.B = m.choice(node)
	default:
		a.A = joinsOne
	}
	return a
}

// choice is the conds of the outs of a splitting Xor, and the place of the Else one.
func (m maker) choice(node int) ([]api.Term, int) {
	var conds []api.Term
	other := 0
	for i, f := range net.Outs(m.Net, node) {
		if m.Flows[f].Else {
			other = i
		}
		conds = append(conds, own(m.Flows[f].Cond))
	}
	return conds, other
}

// ons are the programs of the Catches behind an Event, each with one of the kids.
func (m maker) ons(node int, kids []bpel.Act) []bpel.Act {
	var l []bpel.Act
	for i, f := range net.Outs(m.Net, node) {
		catch := m.Flows[f].To
		l = append(l, bpel.Act{Kind: bpel.On, Node: catch, A: m.Nodes[catch].A, Kids: []bpel.Act{kids[i]}})
	}
	return l
}

// links are a web's links without their flows.
func links(from []block.Link) []bpel.Link {
	var l []bpel.Link
	for _, x := range from {
		l = append(l, bpel.Link{From: x.From, To: x.To})
	}
	return l
}

// own is the term in memory of its own.
func own(t api.Term) api.Term {
	nest.Part([]*api.Term{&t}, func(t *api.Term) *[]api.Term { return &t.Kids }, nest.MostThings)
	return t
}
