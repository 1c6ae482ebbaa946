package bpel

import (
	"slices"

	"treenail/api"
	"treenail/net"
	"treenail/rank"
	"treenail/term"
)

// What a gate does: its A.
const (
	splitsAll = 1 + iota
	joinsAll
	splitsOne
	joinsOne
)

// formed tells whether an activity is one; what its kids are in themselves is not looked at.
// It takes off what the activity's kind has: nothing else may be left.
func formed(a Act) bool {
	right := holds(a)
	take := func(x *int, count int) {
		right = right && *x >= 0 && *x < count
		*x = 0
	}
	if hasNode(a.Kind) {
		take(&a.Node, api.MaxNodes)
	}
	switch a.Kind {
	case Empty, Wait:
	case Assign:
		right = right && isOf(term.Number, a.Term)
		a.Term = api.Term{}
		fallthrough
	case Invoke:
		take(&a.A, api.Vars)
	case Receive:
		take(&a.A, api.Msgs)
	case On:
		right = right && len(a.Kids) == 1
		take(&a.A, api.Msgs+1)
		a.Kids = nil
	case Loop:
		right = right && len(a.Kids) == 2
		take(&a.B, len(a.Conds))
		fallthrough
	case If:
		right = right && len(a.Conds) == len(a.Kids) && isChoice(a.Conds, a.A)
		take(&a.A, len(a.Conds))
		a.Conds = nil
		fallthrough
	case Pick, Sequence, Flow:
		right = right && len(a.Kids) >= 2
		a.Kids = nil
	case Gate:
		if a.A == splitsOne {
			right = right && len(a.Conds) >= 2 && isChoice(a.Conds, a.B)
			take(&a.B, len(a.Conds))
			a.Conds = nil
		}
		right = right && a.A >= splitsAll
		take(&a.A, joinsOne+1)
	case Web:
		right = right && isLinked(a)
		a.Kids, a.Links = nil, nil
	case Rules:
		rule, _ := net.Check(a.Net)
		right = right && rule == 0
		a.Net = api.Net{}
	default:
		return false
	}
	return right && alike(a, Act{Kind: a.Kind}) && len(a.Kids) == 0
}

// hasNode tells whether activities of a kind have a Node.
func hasNode(kind int) bool {
	switch kind {
	case Invoke, Assign, Receive, Wait, If, Pick, On, Loop, Gate:
		return true
	}
	return false
}

// holds tells whether each kid is of a kind that may be a kid of such an activity.
func holds(a Act) bool {
	return !slices.ContainsFunc(a.Kids, func(k Act) bool {
		switch k.Kind {
		case Web, Rules:
			return true
		case Gate:
			return a.Kind != Web
		}
		return (k.Kind == On) != (a.Kind == Pick)
	})
}

// isChoice tells whether all conds are truths but the else one, which is none.
func isChoice(conds []api.Term, other int) bool {
	for i, c := range conds {
		if i == other && !term.Same(c, api.Term{}) || i != other && !isOf(term.Truth, c) {
			return false
		}
	}
	return true
}

// isOf tells whether it is a term of a type.
func isOf(kind int, t api.Term) bool {
	k, err := term.Check(t)
	return err == api.OK && k == kind
}

// isLinked tells whether a web has kids, and its links are right. No more kids have an in than there may be links, so there are never too many.
func isLinked(web Act) bool {
	if len(web.Kids) == 0 || len(web.Links) > api.MaxFlows {
		return false
	}
	// The first place is the outside's, of which is asked what is asked of an activity: one in, one out.
	kids := append([]Act{{}}, web.Kids...)
	ins, outs := make([]int, len(kids)), make([]int, len(kids))
	var between []rank.Edge
	for _, l := range web.Links {
		if min(l.From, l.To) < -1 || max(l.From, l.To) >= len(web.Kids) {
			return false
		}
		outs[l.From+1]++
		ins[l.To+1]++
		if l.From >= 0 && l.To >= 0 {
			between = append(between, rank.Edge(l))
		}
	}
	for i, k := range kids {
		if !isJoined(k, ins[i], outs[i]) {
			return false
		}
	}
	round, err := rank.Round(len(web.Kids), between)
	return err == api.OK && len(round) == 0
}

// isJoined tells whether a web's kid may have so many ins and outs.
func isJoined(k Act, ins, outs int) bool {
	if k.Kind != Gate {
		return ins == 1 && outs == 1
	}
	switch k.A {
	case splitsAll:
		return ins == 1 && outs >= 2
	case splitsOne:
		return ins == 1 && outs == len(k.Conds)
	}
	return ins >= 2 && outs == 1
}

// hasTwice tells of what is formed whether a Node stands in it twice.
func hasTwice(a Act) bool {
	var in [api.MaxNodes]bool
	return !through(a, func(x Act) bool {
		if !hasNode(x.Kind) {
			return true
		}
		first := !in[x.Node]
		in[x.Node] = true
		return first
	})
}
