package token_test

import (
	"math"
	"reflect"
	"slices"
	"testing"

	"treenail/api"
	"treenail/chart"
	"treenail/token"
)

func read(t *testing.T, inside string) api.Net {
	t.Helper()
	n, at, why, e := chart.Read("<process>" + inside + "</process>")
	if e != api.OK {
		t.Fatalf("%s: %v at %d, %d", inside, e, at, why)
	}
	return n
}

// then is a move, and what is changed by it.
type then struct {
	move   token.Move
	change func(s *token.State)
}

func silent(node, arg int) token.Move { return token.Move{Node: node, Arg: arg} }

func shown(node, arg, kind, of, with int) token.Move {
	return token.Move{Node: node, Arg: arg, Label: api.Label{Kind: kind, Node: of, Arg: with}}
}

// passed is that a token went from the first flow to the second one, and that nothing else changed.
func passed(from, to int) func(s *token.State) {
	return func(s *token.State) {
		s.Tokens[from]--
		s.Tokens[to]++
	}
}

func broke(s *token.State) { s.Mode = token.Broken }

// wantMoves holds Moves and Do against what is wanted, move by move.
func wantMoves(t *testing.T, n api.Net, s token.State, want ...then) {
	t.Helper()
	moves := token.Moves(n, s)
	var wanted []token.Move
	for _, w := range want {
		wanted = append(wanted, w.move)
	}
	if !slices.Equal(moves, wanted) {
		t.Errorf("%v: Moves: %v, wanted %v", s, moves, wanted)
		return
	}
	for i, w := range want {
		to := s
		w.change(&to)
		if x, label, e := token.Do(n, s, i); x != to || label != w.move.Label || e != api.OK {
			t.Errorf("%v: Do %d: %v, %v, %v, wanted %v, %v", s, i, x, label, e, to, w.move.Label)
		}
	}
	for _, i := range []int{-1, len(want), len(want) + 1, math.MinInt, math.MaxInt} {
		if x, label, e := token.Do(n, s, i); x != (token.State{}) || label != (api.Label{}) || e != api.ErrNone {
			t.Errorf("%v: Do %d: %v, %v, %v", s, i, x, label, e)
		}
	}
}

// state has noughts, but for tokens of flows: a flow, how many, a flow, how many ..
func state(tokens ...int) token.State {
	var s token.State
	for i := 0; i < len(tokens); i += 2 {
		s.Tokens[tokens[i]] = tokens[i+1]
	}
	return s
}

func with(s token.State, change func(s *token.State)) token.State {
	change(&s)
	return s
}

// Example 1 of the chapter.
func TestExample(t *testing.T) {
	n := read(t, `<start/><task var="3"/><end/><flow from="0" to="1"/><flow from="1" to="2"/>`)
	s, e := token.Start(n)
	if e != api.OK || s != state(0, 1) {
		t.Fatal(s, e)
	}
	for r := range api.Results {
		x, label, e := token.Do(n, s, r)
		want := with(state(1, 1), func(s *token.State) { s.Vars[3] = r })
		if x != want || label != (api.Label{Kind: api.Did, Node: 1, Arg: r}) || e != api.OK {
			t.Errorf("%d: %v, %v, %v", r, x, label, e)
		}
		y, label, e := token.Do(n, x, 0)
		want = with(state(), func(s *token.State) { s.Vars[3], s.Mode = r, token.Ended })
		if y != want || label != (api.Label{Kind: api.Finished}) || e != api.OK {
			t.Errorf("%d: %v, %v, %v", r, y, label, e)
		}
		if l := token.Moves(n, y); len(l) != 0 {
			t.Errorf("%v", l)
		}
	}
}

// 7.1: the first state has one token, on the Start's out, wherever both stand.
func TestStart(t *testing.T) {
	n := read(t, `<end/><task var="0"/><start/><flow from="1" to="0"/><flow from="2" to="1"/>`)
	if s, e := token.Start(n); s != state(1, 1) || e != api.OK || s.Mode != token.Running {
		t.Errorf("%v, %v", s, e)
	}
	for _, n := range wrong(t) {
		if s, e := token.Start(n); s != (token.State{}) || e != api.ErrForm {
			t.Errorf("%v: %v, %v", n, s, e)
		}
	}
}

// wrong is processes that break each of the rules.
func wrong(t *testing.T) []api.Net {
	l := []api.Net{{}}
	add := func(change func(n *api.Net)) {
		n := read(t, `<start/><task var="0"/><end/><flow from="0" to="1"/><flow from="1" to="2"/>`)
		change(&n)
		l = append(l, n)
	}
	add(func(n *api.Net) { n.Nodes[1].A = api.Vars })
	add(func(n *api.Net) { n.Flows[1].To = 3 })
	add(func(n *api.Net) { n.Flows[0].From = -1 })
	add(func(n *api.Net) { n.Flows = n.Flows[:1] })
	add(func(n *api.Net) { n.Nodes[1].Kind = api.Start })
	add(func(n *api.Net) { n.Flows = make([]api.Flow, api.MaxFlows+1) })
	add(func(n *api.Net) { n.Nodes = make([]api.Node, api.MaxNodes+1) })
	add(func(n *api.Net) {
		n.Nodes = append(n.Nodes, api.Node{Kind: api.Task}, api.Node{Kind: api.Task})
		n.Flows = append(n.Flows, api.Flow{From: 3, To: 4}, api.Flow{From: 4, To: 3})
	})
	return l
}

// 7.1: what is no state, at the edges; a wrong process is told first.
func TestCheck(t *testing.T) {
	n := read(t, `<start/><task var="3"/><end/><flow from="0" to="1"/><flow from="1" to="2"/>`)
	set := func(place func(s *token.State) *int, value int, want api.Errno) {
		t.Helper()
		s := state(0, 1)
		*place(&s) = value
		if e := token.Check(n, s); e != want {
			t.Errorf("%v: %v, wanted %v", s, e, want)
		}
		moves := token.Moves(n, s)
		x, label, e := token.Do(n, s, 0)
		if want != api.OK && (len(moves) != 0 || x != (token.State{}) || label != (api.Label{}) || e != want) {
			t.Errorf("%v: %v; %v, %v, %v", s, moves, x, label, e)
		}
		for _, n := range wrong(t) {
			if e := token.Check(n, s); e != api.ErrForm {
				t.Errorf("%v: Check: %v", n, e)
			}
			if l := token.Moves(n, s); len(l) != 0 {
				t.Errorf("%v: Moves: %v", n, l)
			}
			if x, label, e := token.Do(n, s, -1); x != (token.State{}) || label != (api.Label{}) || e != api.ErrForm {
				t.Errorf("%v: Do: %v, %v, %v", n, x, label, e)
			}
		}
	}
	within := func(place func(s *token.State) *int, least, most int) {
		t.Helper()
		for _, v := range []int{least, most} {
			set(place, v, api.OK)
		}
		for _, v := range []int{least - 1, most + 1, math.MinInt, math.MaxInt} {
			set(place, v, api.ErrArg)
		}
	}
	for f := range api.MaxFlows {
		most := 0
		if f < len(n.Flows) {
			most = api.MaxHold
		}
		within(func(s *token.State) *int { return &s.Tokens[f] }, 0, most)
	}
	for v := range api.Vars {
		within(func(s *token.State) *int { return &s.Vars[v] }, -api.MaxInt, api.MaxInt)
	}
	for m := range api.Msgs {
		within(func(s *token.State) *int { return &s.Queue[m] }, 0, api.MaxHold)
	}
	within(func(s *token.State) *int { return &s.Mode }, token.Running, token.Broken)
}

// 7.1: a state of a process with MaxFlows flows may have tokens on all of them.
func TestAllFlows(t *testing.T) {
	n := api.Net{Nodes: []api.Node{{Kind: api.Start}, {Kind: api.And}, {Kind: api.And}, {Kind: api.End}}}
	n.Flows = append(n.Flows, api.Flow{From: 0, To: 1}, api.Flow{From: 2, To: 3})
	for len(n.Flows) < api.MaxFlows {
		n.Flows = append(n.Flows, api.Flow{From: 1, To: 2})
	}
	var s token.State
	for f := range s.Tokens {
		s.Tokens[f] = api.MaxHold
	}
	if e := token.Check(n, s); e != api.OK || token.Tokens(s) != api.MaxFlows*api.MaxHold {
		t.Errorf("%v, %d", e, token.Tokens(s))
	}
	s.Tokens[1] = 0
	wantMoves(t, n, s, then{silent(2, 0), func(s *token.State) {
		for f := 2; f < api.MaxFlows; f++ {
			s.Tokens[f]--
		}
		s.Tokens[1] = 1
	}})
}

// 7.1: how many tokens there are.
func TestTokens(t *testing.T) {
	for want, s := range []token.State{{}, state(39, 1), state(0, 1, 7, 1), state(3, 3), state(0, 1, 1, 2, 39, 1)} {
		if k := token.Tokens(s); k != want {
			t.Errorf("%v: %d", s, k)
		}
	}
	if k := token.Tokens(token.State{Vars: [api.Vars]int{1}, Queue: [api.Msgs]int{2}, Mode: token.Ended}); k != 0 {
		t.Error(k)
	}
}

func TestTask(t *testing.T) {
	n := read(t, `<start/><end/><task var="2"/><flow from="2" to="1"/><flow from="0" to="2"/>`)
	did := func(r int) then {
		return then{shown(2, r, api.Did, 2, r), func(s *token.State) {
			passed(1, 0)(s)
			s.Vars[2] = r
		}}
	}
	seven := func(s *token.State) { s.Vars = [api.Vars]int{7, 7, 7, 7} }
	wantMoves(t, n, with(state(1, 1), seven), did(0), did(1))
	wantMoves(t, n, with(state(1, 3, 0, 2), seven), then{silent(1, 0), func(s *token.State) { s.Tokens[0]-- }}, did(0), did(1))
	wantMoves(t, n, with(state(1, 3, 0, 3), seven), then{silent(1, 0), func(s *token.State) { s.Tokens[0]-- }})
	wantMoves(t, n, state())
}

func TestAssign(t *testing.T) {
	n := read(t, `<start/><assign var="1" value="(div (add $0 1) $3)"/><end/><flow from="0" to="1"/><flow from="1" to="2"/>`)
	one := func(s *token.State) { s.Vars = [api.Vars]int{6, 9, 0, -2} }
	set := then{shown(1, 0, api.Set, 1, 0), func(s *token.State) {
		passed(0, 1)(s)
		s.Vars[1] = -3
	}}
	drop := then{silent(2, 0), func(s *token.State) { s.Tokens[1]-- }}
	wantMoves(t, n, with(state(0, 1), one), set)
	wantMoves(t, n, with(state(0, 2, 1, 2), one), set, drop)
	wantMoves(t, n, with(state(0, 2, 1, 3), one), drop)
	wantMoves(t, n, with(state(1, 2), one), drop)

	// a fault takes no token and asks for no room
	zero := then{shown(1, 0, api.Faulted, 1, int(api.ErrZero)), broke}
	wantMoves(t, n, state(0, 1), zero)
	wantMoves(t, n, state(0, 3, 1, 3), zero, drop)
	wantMoves(t, n, state(1, 2), drop)
	over := then{shown(1, 0, api.Faulted, 1, int(api.ErrOver)), broke}
	wantMoves(t, n, with(state(0, 1), func(s *token.State) { s.Vars[0] = api.MaxInt }), over)
}

// the outs of the choice 1: flow 1 if $0 is 1, flow 2 else, flow 3 if 1 / $1 is 1, flow 4 if $2 is 1.
const choice = `<start/><xor/><xor/><end/><flow from="0" to="1"/><flow from="1" to="2" if="(eq $0 1)"/><flow from="1" to="2" else="yes"/>` +
	`<flow from="1" to="2" if="(eq 1 (div 1 $1))"/><flow from="1" to="2" if="(eq $2 1)"/><flow from="2" to="3"/>`

func TestChoice(t *testing.T) {
	n := read(t, choice)
	goes := func(f int) then { return then{silent(1, f), passed(0, f)} }
	for _, x := range []struct {
		vars [api.Vars]int
		want then
	}{
		{[api.Vars]int{1, 1, 1}, goes(1)},
		{[api.Vars]int{0, 1, 1}, goes(3)},
		{[api.Vars]int{0, 5, 1}, goes(4)},
		{[api.Vars]int{0, 5, 0}, goes(2)},
		{[api.Vars]int{1, 0, 1}, goes(1)},
		{[api.Vars]int{0, 0, 1}, then{shown(1, 0, api.Faulted, 1, int(api.ErrZero)), broke}},
		{[api.Vars]int{0, 0, 0}, then{shown(1, 0, api.Faulted, 1, int(api.ErrZero)), broke}},
	} {
		vars := func(s *token.State) { s.Vars = x.vars }
		wantMoves(t, n, with(state(0, 1), vars), x.want)

		// behind full flows, which the join cannot empty, only the fault goes on
		full := with(state(0, 3, 1, 3, 2, 3, 3, 3, 4, 3, 5, 3), vars)
		end := then{silent(3, 0), func(s *token.State) { s.Tokens[5]-- }}
		if x.want.move.Label.Kind == api.Faulted {
			wantMoves(t, n, full, x.want, end)
		} else {
			wantMoves(t, n, full, end)
		}
	}

	// the chosen flow alone is asked for room
	s := with(state(0, 1, 1, 3, 5, 3), func(s *token.State) { s.Vars = [api.Vars]int{1, 1, 1} })
	wantMoves(t, n, s, then{silent(3, 0), func(s *token.State) { s.Tokens[5]-- }})
	s = with(state(0, 1, 1, 2, 2, 3, 3, 3, 4, 3, 5, 3), func(s *token.State) { s.Vars = [api.Vars]int{1, 1, 1} })
	wantMoves(t, n, s, goes(1), then{silent(3, 0), func(s *token.State) { s.Tokens[5]-- }})
}

func TestMerge(t *testing.T) {
	n := read(t, choice)
	goes := func(f int) then { return then{silent(2, f), passed(f, 5)} }
	end := then{silent(3, 0), func(s *token.State) { s.Tokens[5]-- }}
	wantMoves(t, n, state(3, 1), goes(3))
	wantMoves(t, n, state(4, 1, 1, 2, 2, 3), goes(1), goes(2), goes(4))
	wantMoves(t, n, state(2, 2, 5, 2), goes(2), end)
	wantMoves(t, n, state(2, 2, 5, 3), end)
}

func TestFork(t *testing.T) {
	n := read(t, `<start/><and/><and/><end/><flow from="0" to="1"/><flow from="1" to="2"/><flow from="2" to="3"/><flow from="1" to="2"/><flow from="1" to="2"/>`)
	split := then{silent(1, 0), func(s *token.State) {
		s.Tokens[0]--
		s.Tokens[1]++
		s.Tokens[3]++
		s.Tokens[4]++
	}}
	join := then{silent(2, 0), func(s *token.State) {
		s.Tokens[1]--
		s.Tokens[3]--
		s.Tokens[4]--
		s.Tokens[2]++
	}}
	end := then{silent(3, 0), func(s *token.State) { s.Tokens[2]-- }}
	wantMoves(t, n, state(0, 1), split)
	wantMoves(t, n, state(0, 3, 1, 2, 4, 2), split)
	for _, f := range []int{1, 3, 4} {
		wantMoves(t, n, state(0, 1, f, 3))
	}
	wantMoves(t, n, state(1, 1, 3, 1, 4, 1), join)
	wantMoves(t, n, state(0, 1, 1, 3, 3, 1, 4, 2, 2, 2), join, end)
	wantMoves(t, n, state(1, 3, 3, 1, 4, 2, 2, 3), end)
	wantMoves(t, n, state(1, 1, 3, 1))
	wantMoves(t, n, state(1, 1, 4, 1))
	wantMoves(t, n, state(3, 3, 4, 1))
}

// the event 1 waits for a timer (2), the message 1 (3), or the same message (4); behind it the message 3 is awaited (6).
const wait = `<start/><event/><catch/><catch message="1"/><catch message="1"/><xor/><catch message="3"/><end/>` +
	`<flow from="0" to="1"/><flow from="1" to="3"/><flow from="1" to="2"/><flow from="1" to="4"/>` +
	`<flow from="2" to="5"/><flow from="3" to="5"/><flow from="4" to="5"/><flow from="5" to="6"/><flow from="6" to="7"/>`

func arrives(m int) then {
	return then{shown(-1, m, api.Arrived, 0, m), func(s *token.State) { s.Queue[m]++ }}
}

// got is that a message is gone, and a token passed.
func got(m, from, to int) func(s *token.State) {
	return func(s *token.State) {
		passed(from, to)(s)
		s.Queue[m]--
	}
}

func TestEvent(t *testing.T) {
	n := read(t, wait)
	rings := then{shown(1, 2, api.Rang, 2, 0), passed(0, 4)}
	first := then{shown(1, 1, api.Got, 3, 0), got(1, 0, 5)}
	second := then{shown(1, 3, api.Got, 4, 0), got(1, 0, 6)}
	merge := func(f int) then { return then{silent(5, f), passed(f, 7)} }
	queue := func(q ...int) func(s *token.State) { return func(s *token.State) { copy(s.Queue[:], q) } }
	wantMoves(t, n, state(0, 1), rings, arrives(1), arrives(3))
	wantMoves(t, n, with(state(0, 1), queue(0, 1)), first, rings, second, arrives(1), arrives(3))
	wantMoves(t, n, with(state(0, 1), queue(3, 0, 3, 3)), rings, arrives(1))
	wantMoves(t, n, with(state(0, 3, 5, 3), queue(0, 3)), rings, second, merge(5), arrives(3))
	wantMoves(t, n, with(state(0, 3, 4, 3), queue(0, 2, 0, 2)), first, second, merge(4), arrives(1), arrives(3))
	wantMoves(t, n, with(state(), queue(0, 2)), arrives(1), arrives(3))
}

func TestCatch(t *testing.T) {
	n := read(t, wait)
	queue := func(q ...int) func(s *token.State) { return func(s *token.State) { copy(s.Queue[:], q) } }
	end := then{silent(7, 0), func(s *token.State) { s.Tokens[8]-- }}
	goes := then{shown(6, 0, api.Got, 6, 0), got(3, 7, 8)}
	wantMoves(t, n, with(state(7, 1), queue(2, 2, 2, 0)), arrives(1), arrives(3))
	wantMoves(t, n, with(state(7, 1), queue(0, 3, 0, 1)), goes, arrives(3))
	wantMoves(t, n, with(state(7, 2, 8, 2), queue(0, 3, 0, 3)), goes, end)
	wantMoves(t, n, with(state(7, 2, 8, 3), queue(0, 3, 0, 3)), end)

	// a token that a state has between an Event and a Catch goes on like any other
	wantMoves(t, n, with(state(2, 1, 3, 1), queue(0, 3, 0, 3)), then{shown(2, 0, api.Rang, 2, 0), passed(2, 4)}, then{shown(4, 0, api.Got, 4, 0), got(1, 3, 6)})
	wantMoves(t, n, with(state(2, 3), queue(0, 3, 0, 3)), then{shown(2, 0, api.Rang, 2, 0), passed(2, 4)})
}

func TestEnd(t *testing.T) {
	n := read(t, `<start/><task var="0"/><end/><flow from="0" to="1"/><flow from="1" to="2"/>`)
	last := then{shown(2, 0, api.Finished, 0, 0), func(s *token.State) {
		s.Tokens[1]--
		s.Mode = token.Ended
	}}
	values := func(s *token.State) { s.Vars, s.Queue = [api.Vars]int{1, -2, 3, 4}, [api.Msgs]int{1, 2, 3} }
	wantMoves(t, n, with(state(1, 1), values), last)
	more := then{silent(2, 0), func(s *token.State) { s.Tokens[1]-- }}
	wantMoves(t, n, with(state(1, 2), values), more)
	wantMoves(t, n, with(state(1, 3), values), more)
	l := token.Moves(n, state(0, 1, 1, 1))
	if len(l) != 3 || l[2] != silent(2, 0) {
		t.Errorf("%v", l)
	}
}

// 7.1: nothing happens any more when a process is Ended or Broken, messages do not arrive either.
func TestModes(t *testing.T) {
	n := read(t, wait)
	for _, mode := range []int{token.Ended, token.Broken} {
		s := with(state(0, 1, 7, 2, 8, 1), func(s *token.State) { s.Mode, s.Queue = mode, [api.Msgs]int{1, 1, 1, 1} })
		if e := token.Check(n, s); e != api.OK {
			t.Error(e)
		}
		wantMoves(t, n, s)
	}
}

// R3: the process stays as it is, spare room too, and each answer is new memory.
func TestMemory(t *testing.T) {
	n := read(t, choice)
	n.Nodes = append(make([]api.Node, 0, 20), n.Nodes...)
	n.Flows = append(make([]api.Flow, 0, 20), n.Flows...)
	nodes, flows := slices.Clone(n.Nodes[:20]), slices.Clone(n.Flows[:20])
	s := state(0, 1, 1, 2, 3, 1, 5, 1)
	l, m := token.Moves(n, s), token.Moves(n, s)
	token.Start(n)
	token.Check(n, s)
	token.Do(n, s, 1)
	if !reflect.DeepEqual(nodes, n.Nodes[:20]) || !reflect.DeepEqual(flows, n.Flows[:20]) {
		t.Error("the process is another one")
	}
	l = l[:cap(l)]
	for i := range l {
		l[i].Node = 99
	}
	if !slices.Equal(m, token.Moves(n, s)) || len(m) != 4 || m[0].Node != 1 {
		t.Errorf("%v", m)
	}
}
