package sample

import (
	"treenail/api"
	"treenail/block"
	"treenail/bpel"
	"treenail/net"
)

// Program is a right program, of activities of all kinds in one another.
func Program(pick func(int) int) bpel.Act {
	w := weaver{pick: pick, left: order(api.MaxNodes, pick), room: pick(bpel.Most)}
	switch pick(8) {
	case 0:
		return bpel.Act{Kind: bpel.Rules, Net: Crossed(pick)}
	case 1, 2:
		return w.web()
	}
	a := w.act(api.MaxDepth)
	// Half of all kinds have no kids, and tell little alone.
	for range pick(6) {
		if len(a.Kids) == 0 {
			a = w.act(api.MaxDepth)
		}
	}
	return a
}

// weaver puts a program together: left are the nodes that it may still have, room is how many activities.
type weaver struct {
	pick func(int) int
	left []int
	room int
}

// node is one that is left; there must be one.
func (w *weaver) node() int {
	i := w.left[0]
	w.left = w.left[1:]
	return i
}

// act is an activity, at most so many levels deep, for which itself there is room already.
func (w *weaver) act(levels int) bpel.Act {
	kinds := [...]int{bpel.Empty, bpel.Invoke, bpel.Assign, bpel.Receive, bpel.Wait, bpel.Sequence, bpel.Flow, bpel.If, bpel.Pick, bpel.Loop}
	kind, kids := kinds[w.pick(len(kinds))], 2+w.pick(3)
	switch kind {
	case bpel.Empty:
		return bpel.Act{Kind: bpel.Empty}
	case bpel.Invoke, bpel.Assign, bpel.Receive, bpel.Wait:
		return w.single(kind)
	case bpel.Pick:
		return w.wait(kids, levels)
	case bpel.Loop:
		kids = 2
	}
	if levels < 2 || w.room < kids || len(w.left) == 0 {
		return bpel.Act{Kind: bpel.Empty}
	}
	a := bpel.Act{Kind: kind}
	if kind == bpel.If || kind == bpel.Loop {
		a.Node, a.A = w.node(), w.pick(kids)
		a.Conds = w.conds(kids, a.A)
	}
	if kind == bpel.Loop {
		a.B = w.pick(2)
	}
	w.room -= kids
	for range kids {
		a.Kids = append(a.Kids, w.act(levels-1))
	}
	return a
}

// single is an activity without kids that has a node; an Empty, if no node is left.
func (w *weaver) single(kind int) bpel.Act {
	if len(w.left) == 0 {
		return bpel.Act{Kind: bpel.Empty}
	}
	a := bpel.Act{Kind: kind, Node: w.node()}
	switch kind {
	case bpel.Assign:
		a.A, a.Term = w.pick(api.Vars), Number(w.pick, 3)
	case bpel.Invoke:
		a.A = w.pick(api.Vars)
	case bpel.Receive:
		a.A = w.pick(api.Msgs)
	}
	return a
}

// wait is a Pick of so many, if there is room for it; else an Empty.
func (w *weaver) wait(kids, levels int) bpel.Act {
	if levels < 3 || w.room < 2*kids || len(w.left) <= kids {
		return bpel.Act{Kind: bpel.Empty}
	}
	w.room -= 2 * kids
	a := bpel.Act{Kind: bpel.Pick, Node: w.node()}
	for range kids {
		a.Kids = append(a.Kids, bpel.Act{Kind: bpel.On, Node: w.node(), A: w.pick(api.Msgs + 1)})
	}
	for i := range a.Kids {
		a.Kids[i].Kids = []bpel.Act{w.act(levels - 2)}
	}
	return a
}

// conds are so many truths, but for the else one.
func (w *weaver) conds(count, other int) []api.Term {
	l := make([]api.Term, count)
	for i := range l {
		if i != other {
			l[i] = Truth(w.pick, 3)
		}
	}
	return l
}

// web is a Web with the links of a process's web; its gates are that one's, its other kids are any activities.
func (w *weaver) web() bpel.Act {
	n := Knit(w.pick)
	like := Web(n, w.pick)
	w.room = w.pick(bpel.Most - len(like.Kids))
	a := bpel.Act{Kind: bpel.Web, Kids: make([]bpel.Act, len(like.Kids))}
	for _, l := range like.Links {
		a.Links = append(a.Links, bpel.Link{From: l.From, To: l.To})
	}
	// Gates must have nodes; others can do without.
	for i, k := range like.Kids {
		if k.Kind == block.Gate {
			a.Kids[i] = w.gate(n.Nodes[k.Node].Kind, len(net.Outs(n, k.Node)))
		}
	}
	for i, k := range like.Kids {
		if k.Kind != block.Gate {
			a.Kids[i] = w.act(api.MaxDepth - 1)
		}
	}
	return a
}

// gate is the gate of a node of a kind, with so many outs.
func (w *weaver) gate(kind, outs int) bpel.Act {
	a := bpel.Act{Kind: bpel.Gate, Node: w.node()}
	switch {
	case kind == api.And && outs > 1:
		a.A = 1
	case kind == api.And:
		a.A = 2
	case outs > 1:
		a.A, a.B = 3, w.pick(outs)
		a.Conds = w.conds(outs, a.B)
	default:
		a.A = 4
	}
	return a
}
