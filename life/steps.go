package life

import (
	"treenail/api"
	"treenail/bpel"
	"treenail/dead"
	"treenail/eval"
	"treenail/token"
)

// splitsOne is the A of a gate that chooses.
const splitsOne = 3

// step is a move, and what has the run do it.
type step struct {
	move Move
	do   func()
}

// steps are all that may happen next, in their order.
func (r *run) steps() []step {
	if r.state.Mode != token.Running {
		return nil
	}
	var l []step
	for i, x := range r.items {
		switch r.state.Status[i] {
		case Active:
			l = append(l, r.active(i, x.act)...)
		case Asks:
			if x.act.Kind == bpel.Loop {
				l = append(l, r.choose(i, x.act.A, func(at int) { r.repeat(i, at) }))
			}
		case Over:
			if i == 0 && x.act.Kind != bpel.Rules {
				l = append(l, step{Move{Label: api.Label{Kind: api.Finished}}, func() { r.state.Mode = token.Ended }})
			}
		}
	}
	return append(l, r.arrivals()...)
}

// active are the steps of an item that is Active.
func (r *run) active(i int, a *bpel.Act) []step {
	over := func() { r.over(i) }
	switch a.Kind {
	case bpel.Invoke:
		return r.invoke(i, a)
	case bpel.Assign:
		return []step{r.assign(i, a)}
	case bpel.Receive:
		return r.catch(Move{Item: i}, a.Node, a.A, over)
	case bpel.Wait:
		return r.catch(Move{Item: i}, a.Node, api.Msgs, over)
	case bpel.If:
		return []step{r.choose(i, a.A, func(at int) { r.enter(i, at) })}
	case bpel.Pick:
		return r.pick(i, a)
	case bpel.Gate:
		if a.A == splitsOne {
			return []step{r.choose(i, a.B, func(at int) { r.leave(i, at) })}
		}
	case bpel.Rules:
		return r.rules(a)
	}
	return nil
}

func (r *run) invoke(i int, a *bpel.Act) []step {
	var l []step
	for result := range api.Results {
		m := Move{Item: i, Arg: result, Label: api.Label{Kind: api.Did, Node: a.Node, Arg: result}}
		l = append(l, step{m, func() { r.set(i, result) }})
	}
	return l
}

func (r *run) assign(i int, a *bpel.Act) step {
	number, fault := eval.Number(a.Term, r.state.Vars)
	if fault != api.OK {
		return r.fault(i, fault)
	}
	return step{Move{Item: i, Label: api.Label{Kind: api.Set, Node: a.Node}}, func() { r.set(i, number) }}
}

// set gives the variable of an item a value, behind which the item is over.
func (r *run) set(i, value int) {
	r.state.Vars[r.items[i].act.A] = value
	r.over(i)
}

// catch is the step behind a message of a node that waits, which is gone then, or behind a timer (Msgs); none, if no such message waits.
func (r *run) catch(m Move, node, message int, then func()) []step {
	if message == api.Msgs {
		m.Label = api.Label{Kind: api.Rang, Node: node}
		return []step{{m, then}}
	}
	if r.state.Queue[message] == 0 {
		return nil
	}
	m.Label = api.Label{Kind: api.Got, Node: node}
	return []step{{m, func() {
		r.state.Queue[message]--
		then()
	}}}
}

func (r *run) pick(i int, a *bpel.Act) []step {
	var l []step
	for at, on := range a.Kids {
		l = append(l, r.catch(Move{Item: i, Arg: at}, on.Node, on.A, func() { r.enter(i, at) })...)
	}
	return l
}

// choose is the step of an item to the place that its conds choose; or its fault.
func (r *run) choose(i, other int, to func(at int)) step {
	at, fault := chosen(r.items[i].act.Conds, other, r.state.Vars)
	if fault != api.OK {
		return r.fault(i, fault)
	}
	return step{Move{Item: i, Arg: at}, func() { to(at) }}
}

// chosen is the place of the first cond that is true, or of the else one; or the fault that comes ahead of it.
func chosen(conds []api.Term, other int, vars [api.Vars]int) (int, api.Errno) {
	for at, c := range conds {
		if at == other {
			continue
		}
		is, fault := eval.Truth(c, vars)
		if is || fault != api.OK {
			return at, fault
		}
	}
	return other, api.OK
}

// fault ends all where it stands.
func (r *run) fault(i int, errno api.Errno) step {
	label := api.Label{Kind: api.Faulted, Node: r.items[i].act.Node, Arg: int(errno)}
	return step{Move{Item: i, Label: label}, func() { r.state.Mode = token.Broken }}
}

// enter has the kid begin that was chosen.
func (r *run) enter(i, at int) {
	r.state.Status[i] = Chosen
	r.begin(r.kid(i, at))
}

// repeat has a loop be over, or go round once more.
func (r *run) repeat(i, at int) {
	if at == r.items[i].act.B {
		r.over(i)
		return
	}
	r.state.Status[i] = Active
	r.begin(r.kid(i, 1))
}

// leave has a web go on behind a gate that has chosen an out.
func (r *run) leave(i, out int) {
	x := r.items[i]
	r.state.Status[i] = Over
	was := r.state.Web
	if web, err := dead.Choose(*r.items[x.parent].act, was, x.at, out); err == api.OK {
		r.state.Web = web
		r.goOn(x.parent, was)
	}
}

// rules are the moves of the process. Its arrivals, which come behind all others, are the program's own.
func (r *run) rules(a *bpel.Act) []step {
	s := token.State{Tokens: r.state.Tokens, Vars: r.state.Vars, Queue: r.state.Queue, Mode: r.state.Mode}
	var l []step
	for k, m := range token.Moves(a.Net, s) {
		if m.Label.Kind != api.Arrived {
			l = append(l, step{Move{Arg: k, Label: m.Label}, func() { r.play(a.Net, s, k) }})
		}
	}
	return l
}

// play does a move of the process.
func (r *run) play(n api.Net, s token.State, k int) {
	to, _, _ := token.Do(n, s, k)
	r.state.Tokens, r.state.Vars, r.state.Queue, r.state.Mode = to.Tokens, to.Vars, to.Queue, to.Mode
	if to.Mode == token.Ended {
		r.state.Status[0] = Over
	}
}

func (r *run) arrivals() []step {
	var l []step
	for m := range api.Msgs {
		if bpel.Awaits(*r.items[0].act, m) && r.state.Queue[m] < api.MaxHold {
			label := api.Label{Kind: api.Arrived, Arg: m}
			l = append(l, step{Move{Item: -1, Arg: m, Label: label}, func() { r.state.Queue[m]++ }})
		}
	}
	return l
}
