package bpel

import (
	"slices"

	"treenail/api"
	"treenail/nest"
	"treenail/net"
	"treenail/term"
)

// way is a way through activities, to so many levels and so many of them.
func way(levels, acts int) nest.Way[Act] {
	kids := func(a Act) []Act { return a.Kids }
	return nest.Way[Act]{Kids: kids, Levels: levels, Things: acts}
}

// through shows an activity and all in it, till it is told false, and tells whether it came through all of them.
func through(a Act, to func(Act) bool) bool {
	return nest.Through(way(nest.MostLevels, nest.MostThings), a, to)
}

// tooLarge tells whether there are too many activities, or they lie too deep.
func tooLarge(a Act) bool {
	return !nest.Through(way(api.MaxDepth, Most), a, func(Act) bool { return true })
}

// awaits tells whether an activity, its kids aside, awaits a message; a timer is none.
func awaits(a Act, m int) bool {
	switch a.Kind {
	case Receive, On:
		return a.A == m && m >= 0 && m < api.Msgs
	case Rules:
		return net.Awaits(a.Net, m)
	}
	return false
}

// alike tells whether two activities are the same but for their kids.
func alike(a, b Act) bool {
	return a.Kind == b.Kind && a.Node == b.Node && a.A == b.A && a.B == b.B && term.Same(a.Term, b.Term) &&
		slices.EqualFunc(a.Conds, b.Conds, term.Same) && slices.Equal(a.Links, b.Links) &&
		slices.EqualFunc(a.Net.Nodes, b.Net.Nodes, sameNode) && slices.EqualFunc(a.Net.Flows, b.Net.Flows, sameFlow)
}

func sameNode(a, b api.Node) bool {
	return a.Kind == b.Kind && a.A == b.A && term.Same(a.Term, b.Term)
}

func sameFlow(a, b api.Flow) bool {
	return a.From == b.From && a.To == b.To && a.Else == b.Else && term.Same(a.Cond, b.Cond)
}
