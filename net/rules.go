package net

import (
	"treenail/api"
	"treenail/term"
)

// wrongNodes are the places at which rule 1 is broken.
func wrongNodes(n api.Net) []int {
	if len(n.Nodes) > api.MaxNodes || len(n.Flows) > api.MaxFlows {
		return []int{0}
	}
	return places(len(n.Nodes), func(i int) bool { return !nodeRight(n.Nodes[i]) })
}

func nodeRight(x api.Node) bool {
	most := 0
	switch x.Kind {
	case api.Assign:
		if !isOf(term.Number, x.Term) {
			return false
		}
		// But for its term, it is asked what a Task is.
		x.Term = api.Term{}
		fallthrough
	case api.Task:
		most = api.Vars - 1
	case api.Catch:
		most = api.Msgs
	case api.Start, api.End, api.Xor, api.And, api.Event:
	default:
		return false
	}
	return x.A >= 0 && x.A <= most && isZero(x.Term)
}

// wrongFlows are the places at which rule 2 is broken, of a process that keeps rule 1.
func wrongFlows(n api.Net) []int {
	joints := count(n)
	return places(len(n.Flows), func(i int) bool {
		f := n.Flows[i]
		if !isNode(n, f.From) || !isNode(n, f.To) || f.From == f.To {
			return true
		}
		chosen := n.Nodes[f.From].Kind == api.Xor && joints[f.From].outs > 1
		return !conditionRight(f, chosen)
	})
}

// conditionRight tells of a flow whether it has a condition, or is Else, just if it is one that a splitting Xor chooses from.
func conditionRight(f api.Flow, chosen bool) bool {
	if chosen && !f.Else {
		return isOf(term.Truth, f.Cond)
	}
	return chosen == f.Else && isZero(f.Cond)
}

// wrongJoints are the places at which rule 3 is broken, of a process that keeps rules 1 and 2.
func wrongJoints(n api.Net) []int {
	joints := count(n)
	start, end := Start(n), End(n)
	wrong := places(len(n.Nodes), func(i int) bool {
		second := n.Nodes[i].Kind == api.Start && i != start || n.Nodes[i].Kind == api.End && i != end
		return second || !jointRight(n, i, joints[i])
	})
	if start < 0 || end < 0 {
		wrong = append(wrong, len(n.Nodes))
	}
	return wrong
}

func jointRight(n api.Net, i int, j joint) bool {
	splits := j.ins == 1 && j.outs > 1
	switch n.Nodes[i].Kind {
	case api.Start:
		return j.ins == 0 && j.outs == 1
	case api.End:
		return j.ins == 1 && j.outs == 0
	case api.Event:
		return splits && leadsToCatches(n, i)
	case api.Xor:
		if j.outs > 1 && j.elses != 1 {
			return false
		}
		fallthrough
	case api.And:
		return splits || j.ins > 1 && j.outs == 1
	}
	return j.ins == 1 && j.outs == 1
}

func leadsToCatches(n api.Net, i int) bool {
	for _, f := range n.Flows {
		if f.From == i && n.Nodes[f.To].Kind != api.Catch {
			return false
		}
	}
	return true
}

// strayNodes are the places at which rule 4 is broken, of a process that keeps rules 1 to 3.
func strayNodes(n api.Net) []int {
	var ahead, back [api.MaxNodes]bool
	ahead[Start(n)], back[End(n)] = true, true
	// A way passes no more flows than there are nodes.
	for range n.Nodes {
		for _, f := range n.Flows {
			ahead[f.To] = ahead[f.To] || ahead[f.From]
			back[f.From] = back[f.From] || back[f.To]
		}
	}
	return places(len(n.Nodes), func(i int) bool { return !ahead[i] || !back[i] })
}

// joint is how many flows lead to a node, how many from it, and how many of these are Else.
type joint struct{ ins, outs, elses int }

// count is the joints of all nodes, of a process that keeps rule 1.
func count(n api.Net) [api.MaxNodes]joint {
	var joints [api.MaxNodes]joint
	for _, f := range n.Flows {
		if isNode(n, f.From) {
			joints[f.From].outs++
			if f.Else {
				joints[f.From].elses++
			}
		}
		if isNode(n, f.To) {
			joints[f.To].ins++
		}
	}
	return joints
}

func isNode(n api.Net, i int) bool { return i >= 0 && i < len(n.Nodes) }

func isZero(t api.Term) bool { return t.Op == 0 && t.N == 0 && len(t.Kids) == 0 }

// isOf tells whether it is a term of a type.
func isOf(kind int, t api.Term) bool {
	k, err := term.Check(t)
	return err == api.OK && k == kind
}
