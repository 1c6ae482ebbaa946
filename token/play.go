package token

import (
	"treenail/api"
	"treenail/eval"
	"treenail/net"
)

// game is a state that is right, and the moves of it that were found; of one of them also what it leads to, since states are great.
type game struct {
	net   api.Net
	state State
	moves []Move
	want  int
	to    State
}

// play finds all that may happen in a state that is right, in their order, and what the move at the place that is wanted leads to.
func play(n api.Net, s State, want int) *game {
	g := &game{net: n, state: s, want: want}
	if s.Mode != Running {
		return g
	}
	for i, ready := range reached(n, s) {
		if ready {
			g.node(i)
		}
	}
	g.arrivals()
	return g
}

func (g *game) add(m Move, to State) {
	if len(g.moves) == g.want {
		g.to = to
	}
	g.moves = append(g.moves, m)
}

// reached are the nodes with a token on an in: the others do nothing, and most nodes are such most of the time.
func reached(n api.Net, s State) [api.MaxNodes]bool {
	var l [api.MaxNodes]bool
	for f, x := range n.Flows {
		if s.Tokens[f] > 0 {
			l[x.To] = true
		}
	}
	return l
}

// node adds what a node may do that a token has reached, so that it is no Start.
func (g *game) node(i int) {
	ins, outs := net.Ins(g.net, i), net.Outs(g.net, i)
	switch g.net.Nodes[i].Kind {
	case api.Task:
		g.task(i, ins, outs)
	case api.Assign:
		g.assign(i, ins, outs)
	case api.Xor:
		if len(outs) > 1 {
			g.choose(i, ins, outs)
		} else {
			g.merge(i, ins, outs)
		}
	case api.And:
		if to, ok := g.pass(ins, outs); ok {
			g.add(Move{Node: i}, to)
		}
	case api.Event:
		for _, f := range outs {
			catch := g.net.Flows[f].To
			g.catch(Move{Node: i, Arg: f}, catch, ins, net.Outs(g.net, catch))
		}
	case api.Catch:
		g.catch(Move{Node: i}, i, ins, outs)
	case api.End:
		g.end(i, ins)
	}
}

// pass takes a token from each of the first flows and puts one on each of the others; false, if one is missing, or has no room.
func (g *game) pass(from, onto []int) (State, bool) {
	to := g.state
	for _, f := range from {
		if to.Tokens[f] == 0 {
			return State{}, false
		}
		to.Tokens[f]--
	}
	for _, f := range onto {
		if to.Tokens[f] == api.MaxHold {
			return State{}, false
		}
		to.Tokens[f]++
	}
	return to, true
}

func (g *game) task(i int, ins, outs []int) {
	to, ok := g.pass(ins, outs)
	if !ok {
		return
	}
	for r := range api.Results {
		to.Vars[g.net.Nodes[i].A] = r
		g.add(Move{Node: i, Arg: r, Label: api.Label{Kind: api.Did, Node: i, Arg: r}}, to)
	}
}

func (g *game) assign(i int, ins, outs []int) {
	x := g.net.Nodes[i]
	number, fault := eval.Number(x.Term, g.state.Vars)
	if fault != api.OK {
		g.fault(i, fault)
		return
	}
	if to, ok := g.pass(ins, outs); ok {
		to.Vars[x.A] = number
		g.add(Move{Node: i, Label: api.Label{Kind: api.Set, Node: i}}, to)
	}
}

// fault ends all where it stands: the token on the one in of such a node stays, and no room is asked for.
func (g *game) fault(i int, fault api.Errno) {
	to := g.state
	to.Mode = Broken
	g.add(Move{Node: i, Label: api.Label{Kind: api.Faulted, Node: i, Arg: int(fault)}}, to)
}

// choose adds the one way that a splitting Xor goes: without room on it, the others are not asked.
func (g *game) choose(i int, ins, outs []int) {
	f, fault := g.chosen(outs)
	if fault != api.OK {
		g.fault(i, fault)
		return
	}
	if to, ok := g.pass(ins, []int{f}); ok {
		g.add(Move{Node: i, Arg: f}, to)
	}
}

// chosen is the first flow whose condition is true, or the Else one; or the fault that comes ahead of it.
func (g *game) chosen(outs []int) (int, api.Errno) {
	other := 0
	for _, f := range outs {
		if g.net.Flows[f].Else {
			other = f
			continue
		}
		is, fault := eval.Truth(g.net.Flows[f].Cond, g.state.Vars)
		if is || fault != api.OK {
			return f, fault
		}
	}
	return other, api.OK
}

func (g *game) merge(i int, ins, outs []int) {
	for _, f := range ins {
		if to, ok := g.pass([]int{f}, outs); ok {
			g.add(Move{Node: i, Arg: f}, to)
		}
	}
}

// catch adds the move by which a Catch goes on, from its own in or from that of the Event ahead of it.
func (g *game) catch(m Move, i int, from, onto []int) {
	to, ok := g.pass(from, onto)
	if !ok {
		return
	}
	message := g.net.Nodes[i].A
	if message == api.Msgs {
		m.Label = api.Label{Kind: api.Rang, Node: i}
		g.add(m, to)
		return
	}
	if to.Queue[message] > 0 {
		to.Queue[message]--
		m.Label = api.Label{Kind: api.Got, Node: i}
		g.add(m, to)
	}
}

func (g *game) end(i int, ins []int) {
	to, ok := g.pass(ins, nil)
	if !ok {
		return
	}
	m := Move{Node: i}
	if to.Tokens == [api.MaxFlows]int{} {
		m.Label = api.Label{Kind: api.Finished}
		to.Mode = Ended
	}
	g.add(m, to)
}

func (g *game) arrivals() {
	for m := range api.Msgs {
		if net.Awaits(g.net, m) && g.state.Queue[m] < api.MaxHold {
			to := g.state
			to.Queue[m]++
			g.add(Move{Node: -1, Arg: m, Label: api.Label{Kind: api.Arrived, Arg: m}}, to)
		}
	}
}
