package net_test

import (
	"math"
	"math/rand"
	"reflect"
	"slices"
	"testing"

	"treenail/api"
	"treenail/net"
	"treenail/sample"
)

func number(n int) api.Term { return api.Term{Op: api.OpNum, N: n} }

func truth() api.Term {
	return api.Term{Op: api.OpLt, Kids: []api.Term{{Op: api.OpVar, N: 3}, number(1)}}
}

// chain is a chain of so many terms that lie in one another.
func chain(levels int) api.Term {
	t := number(1)
	for range levels - 1 {
		t = api.Term{Op: api.OpNeg, Kids: []api.Term{t}}
	}
	return t
}

// round is a term whose kids, so many, lie in themselves.
func round(kids int) api.Term {
	l := make([]api.Term, kids)
	for i := range l {
		l[i] = api.Term{Op: api.OpAdd, Kids: l}
	}
	return l[0]
}

// whole is a process with all kinds of nodes that keeps all rules.
func whole() api.Net {
	return api.Net{
		Nodes: []api.Node{
			{Kind: api.Start}, {Kind: api.Xor}, {Kind: api.Task, A: 3}, {Kind: api.Assign, A: 3, Term: number(5)}, {Kind: api.Xor},
			{Kind: api.And}, {Kind: api.Event}, {Kind: api.Catch, A: 3}, {Kind: api.Catch, A: api.Msgs}, {Kind: api.Xor},
			{Kind: api.And}, {Kind: api.End}, {Kind: api.Catch, A: 0},
		},
		Flows: []api.Flow{
			{From: 0, To: 1}, {From: 1, To: 2, Cond: truth()}, {From: 1, To: 3, Else: true}, {From: 2, To: 4}, {From: 3, To: 4},
			{From: 4, To: 5}, {From: 5, To: 6}, {From: 5, To: 12}, {From: 6, To: 7}, {From: 6, To: 8}, {From: 7, To: 9}, {From: 8, To: 9},
			{From: 9, To: 10}, {From: 12, To: 10}, {From: 10, To: 11},
		},
	}
}

// wide is a process of so many flows between two Xors, and as many tasks behind them.
func wide(flows, tasks int) api.Net {
	n := api.Net{Nodes: []api.Node{{Kind: api.Start}, {Kind: api.Xor}, {Kind: api.Xor}}, Flows: []api.Flow{{From: 0, To: 1}, {From: 1, To: 2, Else: true}}}
	for range flows - 1 {
		n.Flows = append(n.Flows, api.Flow{From: 1, To: 2, Cond: truth()})
	}
	for i := range tasks {
		n.Nodes = append(n.Nodes, api.Node{Kind: api.Task})
		n.Flows = append(n.Flows, api.Flow{From: i + 2, To: i + 3})
	}
	n.Nodes = append(n.Nodes, api.Node{Kind: api.End})
	n.Flows = append(n.Flows, api.Flow{From: tasks + 2, To: tasks + 3})
	return n
}

// wantBroken asks All for these places, and Check for the first of them.
func wantBroken(t *testing.T, what string, n api.Net, rule int, places ...int) {
	t.Helper()
	var want []net.Broken
	for _, at := range places {
		want = append(want, net.Broken{Rule: rule, At: at})
	}
	if l := net.All(n); len(l) != len(want) || len(l) > 0 && !reflect.DeepEqual(l, want) {
		t.Errorf("All of %s: %v; want %v", what, l, want)
	}
	if len(places) == 0 {
		places = []int{0}
	}
	if r, at := net.Check(n); r != rule || at != places[0] {
		t.Errorf("Check of %s: %d, %d; want %d, %d", what, r, at, rule, places[0])
	}
}

// with is the whole process with something changed.
func with(change func(n *api.Net)) api.Net {
	n := whole()
	change(&n)
	return n
}

// 5.1: right ones, and the chapter's example.
func TestRight(t *testing.T) {
	wantBroken(t, "the whole", whole(), 0)
	n := api.Net{Nodes: []api.Node{{Kind: api.Start}, {Kind: api.Task}, {Kind: api.End}}, Flows: []api.Flow{{From: 0, To: 1}, {From: 1, To: 2}}}
	wantBroken(t, "the example", n, 0)
	n.Flows = n.Flows[:1]
	wantBroken(t, "the example without the Task's out", n, 3, 1, 2)
	n = api.Net{Nodes: []api.Node{{Kind: api.Start}, {Kind: api.End}}, Flows: []api.Flow{{From: 0, To: 1}}}
	wantBroken(t, "a start and an end", n, 0)
	n = api.Net{Nodes: []api.Node{{Kind: api.Start, Term: api.Term{Kids: []api.Term{}}}, {Kind: api.End}}, Flows: []api.Flow{{From: 0, To: 1, Cond: api.Term{Kids: []api.Term{}}}}}
	wantBroken(t, "zero terms with an empty list", n, 0)
}

// 5.1: MaxNodes and MaxFlows, at the limit and one past it; what else breaks rule 1 is not told beside them.
func TestTooMany(t *testing.T) {
	wantBroken(t, "MaxFlows flows", wide(api.MaxFlows-2, 0), 0)
	wantBroken(t, "a flow more", wide(api.MaxFlows-1, 0), 1, 0)
	wantBroken(t, "MaxNodes nodes", wide(2, api.MaxNodes-4), 0)
	wantBroken(t, "a node more", wide(2, api.MaxNodes-3), 1, 0)
	wantBroken(t, "MaxNodes nodes and MaxFlows flows", wide(api.MaxFlows-api.MaxNodes+2, api.MaxNodes-4), 0)
	wantBroken(t, "wrong nodes, too many", api.Net{Nodes: make([]api.Node, api.MaxNodes+1)}, 1, 0)
	n := wide(api.MaxFlows-1, 0)
	n.Nodes[1].A, n.Nodes[2].A, n.Flows[3].To = 7, 7, 99
	wantBroken(t, "wrong nodes and too many flows", n, 1, 0)
}

// 5.1: rule 1, at the edges of Kind, A and Term.
func TestNodes(t *testing.T) {
	for _, c := range []struct {
		at     int
		x      api.Node
		broken bool
	}{
		{2, api.Node{}, true}, {2, api.Node{Kind: -1}, true}, {2, api.Node{Kind: 9}, true}, {2, api.Node{Kind: math.MaxInt}, true},
		{2, api.Node{Kind: api.Task}, false}, {2, api.Node{Kind: api.Task, A: api.Vars - 1}, false},
		{2, api.Node{Kind: api.Task, A: api.Vars}, true}, {2, api.Node{Kind: api.Task, A: -1}, true},
		{2, api.Node{Kind: api.Task, Term: number(1)}, true}, {2, api.Node{Kind: api.Task, Term: api.Term{N: 1}}, true},
		{2, api.Node{Kind: api.Task, Term: api.Term{Kids: make([]api.Term, 1)}}, true},
		{3, api.Node{Kind: api.Assign, Term: number(0)}, false}, {3, api.Node{Kind: api.Assign, A: api.Vars - 1, Term: number(api.MaxInt)}, false},
		{3, api.Node{Kind: api.Assign, A: api.Vars, Term: number(0)}, true}, {3, api.Node{Kind: api.Assign, A: -1, Term: number(0)}, true},
		{3, api.Node{Kind: api.Assign}, true}, {3, api.Node{Kind: api.Assign, Term: truth()}, true},
		{3, api.Node{Kind: api.Assign, Term: number(api.MaxInt + 1)}, true},
		{3, api.Node{Kind: api.Assign, Term: chain(api.MaxDepth)}, false}, {3, api.Node{Kind: api.Assign, Term: chain(api.MaxDepth + 1)}, true},
		{3, api.Node{Kind: api.Assign, Term: api.Term{Op: api.OpNeg, Kids: []api.Term{truth()}}}, true},
		{7, api.Node{Kind: api.Catch}, false}, {7, api.Node{Kind: api.Catch, A: api.Msgs}, false},
		{7, api.Node{Kind: api.Catch, A: api.Msgs + 1}, true}, {7, api.Node{Kind: api.Catch, A: -1}, true},
		{7, api.Node{Kind: api.Catch, Term: number(1)}, true},
		{0, api.Node{Kind: api.Start, A: 1}, true}, {0, api.Node{Kind: api.Start, A: -1}, true}, {0, api.Node{Kind: api.Start, Term: number(1)}, true},
		{11, api.Node{Kind: api.End, A: 1}, true}, {11, api.Node{Kind: api.End, Term: number(1)}, true},
		{1, api.Node{Kind: api.Xor, A: 1}, true}, {1, api.Node{Kind: api.Xor, Term: truth()}, true},
		{5, api.Node{Kind: api.And, A: 1}, true}, {5, api.Node{Kind: api.And, Term: number(1)}, true},
		{6, api.Node{Kind: api.Event, A: 1}, true}, {6, api.Node{Kind: api.Event, Term: number(1)}, true},
	} {
		n := with(func(n *api.Net) { n.Nodes[c.at] = c.x })
		if c.broken {
			wantBroken(t, "a wrong node", n, 1, c.at)
		} else {
			wantBroken(t, "a right node", n, 0)
		}
	}
	n := with(func(n *api.Net) { n.Nodes[11].Kind, n.Nodes[2].A, n.Nodes[5].A, n.Flows[0].To = 0, 4, 1, 0 })
	wantBroken(t, "three wrong nodes", n, 1, 2, 5, 11)
}

// 5.1: rule 2, of ends and of conditions.
func TestFlows(t *testing.T) {
	for _, c := range []struct {
		what   string
		change func(n *api.Net)
		places []int
	}{
		{"from no node", func(n *api.Net) { n.Flows[3].From = -1 }, []int{3}},
		{"from behind the nodes", func(n *api.Net) { n.Flows[3].From = 13 }, []int{3}},
		{"to no node", func(n *api.Net) { n.Flows[3].To = -1 }, []int{3}},
		{"to behind the nodes", func(n *api.Net) { n.Flows[3].To = 13 }, []int{3}},
		{"to itself", func(n *api.Net) { n.Flows[14].To = 10 }, []int{14}},
		{"a condition behind a start", func(n *api.Net) { n.Flows[0].Cond = truth() }, []int{0}},
		{"Else behind a task", func(n *api.Net) { n.Flows[3].Else = true }, []int{3}},
		{"a condition behind an Xor that joins", func(n *api.Net) { n.Flows[5].Cond = truth() }, []int{5}},
		{"Else behind an Xor that joins", func(n *api.Net) { n.Flows[12].Else = true }, []int{12}},
		{"a condition behind an And", func(n *api.Net) { n.Flows[6].Cond = truth() }, []int{6}},
		{"Else behind an Event", func(n *api.Net) { n.Flows[9].Else = true }, []int{9}},
		{"no condition", func(n *api.Net) { n.Flows[1].Cond = api.Term{} }, []int{1}},
		{"a number", func(n *api.Net) { n.Flows[1].Cond = number(1) }, []int{1}},
		{"a wrong term", func(n *api.Net) { n.Flows[1].Cond.Kids[0].N = 4 }, []int{1}},
		{"Else and a condition", func(n *api.Net) { n.Flows[1].Else = true }, []int{1}},
		{"a condition and Else", func(n *api.Net) { n.Flows[2].Cond = truth() }, []int{2}},
		{"an N behind Else", func(n *api.Net) { n.Flows[2].Cond.N = 1 }, []int{2}},
		{"one out of an Xor, conditions as of two", func(n *api.Net) { n.Flows[2].From = 3 }, []int{1, 2}},
		{"a second out of an Xor", func(n *api.Net) { n.Flows[4] = api.Flow{From: 9, To: 4} }, []int{4, 12}},
		{"many", func(n *api.Net) { n.Flows[14].To, n.Flows[0].From, n.Flows[7].Else = 99, -5, true }, []int{0, 7, 14}},
	} {
		wantBroken(t, c.what, with(c.change), 2, c.places...)
	}
}

// 5.1: rule 3, of ins, outs, Else, Events, Starts and Ends.
func TestPlaces(t *testing.T) {
	for _, c := range []struct {
		what   string
		change func(n *api.Net)
		places []int
	}{
		{"a flow more to the end", func(n *api.Net) { n.Flows = append(n.Flows, api.Flow{From: 5, To: 11}) }, []int{11}},
		{"a flow from the end", func(n *api.Net) { n.Flows = append(n.Flows, api.Flow{From: 11, To: 10}) }, []int{11}},
		{"a flow to the start", func(n *api.Net) { n.Flows = append(n.Flows, api.Flow{From: 5, To: 0}) }, []int{0}},
		{"two outs of the start", func(n *api.Net) { n.Flows = append(n.Flows, api.Flow{From: 0, To: 10}) }, []int{0}},
		{"two outs of a task", func(n *api.Net) { n.Flows = append(n.Flows, api.Flow{From: 2, To: 10}) }, []int{2}},
		{"two ins of an assign", func(n *api.Net) { n.Flows = append(n.Flows, api.Flow{From: 5, To: 3}) }, []int{3}},
		{"two outs of a catch", func(n *api.Net) { n.Flows = append(n.Flows, api.Flow{From: 12, To: 10}) }, []int{12}},
		{"two ins of an event", func(n *api.Net) { n.Flows = append(n.Flows, api.Flow{From: 5, To: 6}) }, []int{6}},
		{"an And of two ins and two outs", func(n *api.Net) { n.Flows = append(n.Flows, api.Flow{From: 10, To: 9}) }, []int{10}},
		{"an Xor of two ins and two outs", func(n *api.Net) {
			n.Flows[5].Cond = truth()
			n.Flows = append(n.Flows, api.Flow{From: 4, To: 10, Else: true})
		}, []int{4}},
		{"an And of one in and one out", func(n *api.Net) { n.Flows = slices.Delete(n.Flows, 7, 8) }, []int{5, 12}},
		{"an Xor of one in and one out", func(n *api.Net) { n.Flows = slices.Delete(n.Flows, 10, 11) }, []int{7, 9}},
		{"an event with one out", func(n *api.Net) { n.Flows = slices.Delete(n.Flows, 8, 9) }, []int{6, 7}},
		{"an event that leads to a task", func(n *api.Net) { n.Nodes[8] = api.Node{Kind: api.Task} }, []int{6}},
		{"an event that leads to an And", func(n *api.Net) { n.Flows[9].To, n.Flows[6].To = 10, 8 }, []int{6}},
		{"two that are Else", func(n *api.Net) { n.Flows[1] = api.Flow{From: 1, To: 2, Else: true} }, []int{1}},
		{"none that is Else", func(n *api.Net) { n.Flows[2] = api.Flow{From: 1, To: 3, Cond: truth()} }, []int{1}},
		{"an End more", func(n *api.Net) {
			n.Nodes = append(n.Nodes, api.Node{Kind: api.End})
			n.Flows = append(n.Flows, api.Flow{From: 5, To: 13})
		}, []int{13}},
		{"a Start ahead of the others", func(n *api.Net) {
			n.Nodes[2] = api.Node{Kind: api.Start}
			n.Flows[1].To = 4
		}, []int{2}},
		{"three Starts", func(n *api.Net) { n.Nodes[7], n.Nodes[12] = api.Node{Kind: api.Start}, api.Node{Kind: api.Start} }, []int{6, 7, 12}},
		{"no Start", func(n *api.Net) { n.Nodes[0] = api.Node{Kind: api.Task} }, []int{0, 13}},
		{"no End", func(n *api.Net) { n.Nodes[11] = api.Node{Kind: api.Catch} }, []int{11, 13}},
		{"no flows", func(n *api.Net) { n.Flows = nil }, []int{0, 1, 2, 3, 4, 5, 6, 7, 8, 9, 10, 11, 12}},
		{"neither", func(n *api.Net) { *n = api.Net{} }, []int{0}},
		{"neither, of two", func(n *api.Net) { *n = api.Net{Nodes: []api.Node{{Kind: api.Xor}, {Kind: api.And}}} }, []int{0, 1, 2}},
		{"no End, but a Start in order", func(n *api.Net) {
			*n = api.Net{Nodes: []api.Node{{Kind: api.Start}, {Kind: api.And}, {Kind: api.And}}, Flows: []api.Flow{{From: 0, To: 1}, {From: 2, To: 1}, {From: 1, To: 2}, {From: 1, To: 2}}}
		}, []int{1, 3}},
	} {
		wantBroken(t, c.what, with(c.change), 3, c.places...)
	}
	n := api.Net{Nodes: []api.Node{{Kind: api.And}, {Kind: api.And}}, Flows: []api.Flow{{From: 0, To: 1}, {From: 0, To: 1}, {From: 1, To: 0}}}
	wantBroken(t, "neither, and all else is right", n, 3, 2)
}

// 5.1: rule 4, ahead and back.
func TestWays(t *testing.T) {
	aside := func(n *api.Net) {
		n.Nodes = append(n.Nodes, api.Node{Kind: api.Task}, api.Node{Kind: api.Task})
		n.Flows = append(n.Flows, api.Flow{From: 13, To: 14}, api.Flow{From: 14, To: 13})
	}
	wantBroken(t, "tasks aside", with(aside), 4, 13, 14)
	n := with(func(n *api.Net) {
		// An And leads from the process to two nodes that do not lead back.
		n.Nodes = append(n.Nodes, api.Node{Kind: api.Xor}, api.Node{Kind: api.Task})
		n.Flows = append(n.Flows, api.Flow{From: 5, To: 13}, api.Flow{From: 13, To: 14}, api.Flow{From: 14, To: 13})
	})
	wantBroken(t, "no way to the end", n, 4, 13, 14)
	n = with(func(n *api.Net) {
		// An And that no token reaches leads to the process.
		n.Nodes = append(n.Nodes, api.Node{Kind: api.And}, api.Node{Kind: api.Task})
		n.Flows = append(n.Flows, api.Flow{From: 13, To: 14}, api.Flow{From: 14, To: 13}, api.Flow{From: 13, To: 10})
	})
	wantBroken(t, "no way from the start", n, 4, 13, 14)
	n = with(func(n *api.Net) { aside(n); n.Nodes[14], n.Nodes[13] = n.Nodes[13], api.Node{Kind: api.Catch} })
	wantBroken(t, "a catch aside", n, 4, 13, 14)
	n = api.Net{
		Nodes: []api.Node{{Kind: api.Task}, {Kind: api.Task}, {Kind: api.Start}, {Kind: api.End}},
		Flows: []api.Flow{{From: 0, To: 1}, {From: 1, To: 0}, {From: 2, To: 3}},
	}
	wantBroken(t, "nothing between start and end", n, 4, 0, 1)
}

// 5.1: ways as long as they can be, with flows in the order that takes longest.
func TestLongWays(t *testing.T) {
	n := wide(2, api.MaxNodes-4)
	wantBroken(t, "a long way", n, 0)
	slices.Reverse(n.Flows)
	wantBroken(t, "a long way, from behind", n, 0)
}

// 5.1: the least rule counts, wherever the others are broken.
func TestLeast(t *testing.T) {
	n := with(func(n *api.Net) {
		n.Nodes = append(n.Nodes, api.Node{Kind: api.Task}, api.Node{Kind: api.Task})
		n.Flows = append(n.Flows, api.Flow{From: 13, To: 14}, api.Flow{From: 14, To: 13})
	})
	wantBroken(t, "rule 4", n, 4, 13, 14)
	n.Nodes[2] = api.Node{Kind: api.End}
	wantBroken(t, "rules 3 and 4", n, 3, 2, 11)
	n.Flows[7].Else = true
	wantBroken(t, "rules 2, 3 and 4", n, 2, 7)
	n.Nodes[12].A = 5
	wantBroken(t, "all rules", n, 1, 12)
}

// 5.2: flows of a node, of a wrong process too.
func TestInsOuts(t *testing.T) {
	n := whole()
	for _, c := range []struct {
		i         int
		ins, outs []int
	}{
		{0, nil, []int{0}}, {1, []int{0}, []int{1, 2}}, {4, []int{3, 4}, []int{5}}, {11, []int{14}, nil}, {-1, nil, nil}, {13, nil, nil}, {math.MinInt, nil, nil},
	} {
		if l := net.Ins(n, c.i); !slices.Equal(l, c.ins) {
			t.Errorf("Ins of %d: %v; want %v", c.i, l, c.ins)
		}
		if l := net.Outs(n, c.i); !slices.Equal(l, c.outs) {
			t.Errorf("Outs of %d: %v; want %v", c.i, l, c.outs)
		}
	}
	n.Flows = append(n.Flows, api.Flow{From: 4, To: 4}, api.Flow{From: 4, To: 99})
	if ins, outs := net.Ins(n, 4), net.Outs(n, 4); !slices.Equal(ins, []int{3, 4, 15}) || !slices.Equal(outs, []int{5, 15, 16}) {
		t.Errorf("Ins, Outs of a flow to itself: %v, %v", ins, outs)
	}
}

// 5.2: the first start and end, and -1.
func TestStartEnd(t *testing.T) {
	for _, c := range []struct {
		kinds      []int
		start, end int
	}{
		{nil, -1, -1}, {[]int{1, 2}, 0, 1}, {[]int{2, 2, 1, 1}, 2, 0}, {[]int{3, 0, 9}, -1, -1}, {[]int{5, 2}, -1, 1}, {[]int{8, 1}, 1, -1},
	} {
		var n api.Net
		for _, k := range c.kinds {
			n.Nodes = append(n.Nodes, api.Node{Kind: k})
		}
		if s, e := net.Start(n), net.End(n); s != c.start || e != c.end {
			t.Errorf("Start, End of %v: %d, %d; want %d, %d", c.kinds, s, e, c.start, c.end)
		}
	}
}

// 5.2: messages from 0 to Msgs - 1 alone, and of Catches alone.
func TestAwaits(t *testing.T) {
	n := whole()
	n.Nodes = append(n.Nodes, api.Node{Kind: api.Catch, A: -1}, api.Node{Kind: api.Catch, A: api.Msgs + 1}, api.Node{Kind: api.Task, A: 2}, api.Node{Kind: api.Assign, A: 1})
	for m, want := range map[int]bool{0: true, 1: false, 2: false, 3: true, api.Msgs: false, api.Msgs + 1: false, -1: false, math.MaxInt: false} {
		if got := net.Awaits(n, m); got != want {
			t.Errorf("Awaits %d: %v", m, got)
		}
	}
	if net.Awaits(api.Net{}, 0) {
		t.Error("Awaits of no node")
	}
}

// scramble changes all that a process has, and writes into spare room.
func scramble(n *api.Net) {
	for i := range n.Nodes {
		scrambleTerm(&n.Nodes[i].Term)
		n.Nodes[i].Kind, n.Nodes[i].A = -7, -7
	}
	for i := range n.Flows {
		scrambleTerm(&n.Flows[i].Cond)
		n.Flows[i].From, n.Flows[i].To, n.Flows[i].Else = -7, -7, !n.Flows[i].Else
	}
	n.Nodes = append(n.Nodes, api.Node{Kind: -7})
	n.Flows = append(n.Flows, api.Flow{From: -7})
}

func scrambleTerm(t *api.Term) {
	for i := range t.Kids {
		scrambleTerm(&t.Kids[i])
	}
	t.Op, t.N = -7, -7
	t.Kids = append(t.Kids, api.Term{Op: -7})
}

// roomy is the same process, all lists of which have spare room, empty ones too.
func roomy(n api.Net) api.Net {
	m := api.Net{Nodes: append(make([]api.Node, 0, len(n.Nodes)+2), n.Nodes...), Flows: append(make([]api.Flow, 0, len(n.Flows)+2), n.Flows...)}
	for i := range m.Nodes {
		m.Nodes[i].Term = roomyTerm(m.Nodes[i].Term)
	}
	for i := range m.Flows {
		m.Flows[i].Cond = roomyTerm(m.Flows[i].Cond)
	}
	return m
}

func roomyTerm(t api.Term) api.Term {
	kids := make([]api.Term, len(t.Kids), len(t.Kids)+2)
	for i, k := range t.Kids {
		kids[i] = roomyTerm(k)
	}
	t.Kids = kids
	return t
}

// spare tells whether something was written into the spare room of a process.
func spare(n api.Net) bool {
	for _, x := range n.Nodes {
		if spareTerm(x.Term) {
			return true
		}
	}
	for _, f := range n.Flows {
		if spareTerm(f.Cond) {
			return true
		}
	}
	return n.Nodes[:cap(n.Nodes)][len(n.Nodes)].Kind != 0 || n.Flows[:cap(n.Flows)][len(n.Flows)].From != 0
}

func spareTerm(t api.Term) bool {
	return slices.ContainsFunc(t.Kids, spareTerm) || t.Kids[:cap(t.Kids)][len(t.Kids)].Op != 0
}

// 5.2: a copy is the same, and shares nothing, spare room too; R3: nothing is changed.
func TestCopy(t *testing.T) {
	r := rand.New(rand.NewSource(7))
	for range 300 {
		n := sample.Net(r.Intn)
		c := net.Copy(n)
		if !reflect.DeepEqual(c, n) {
			t.Fatalf("Copy of %v: %v", n, c)
		}
		room := roomy(n)
		again := net.Copy(room)
		scramble(&again)
		if !reflect.DeepEqual(net.Copy(room), roomy(n)) || spare(room) {
			t.Fatalf("Copy of %v shares memory", n)
		}
		scramble(&n)
		if reflect.DeepEqual(c, n) || net.All(c) != nil {
			t.Fatalf("Copy of a process that was changed is %v", c)
		}
	}
	if c := net.Copy(api.Net{}); len(c.Nodes) != 0 || len(c.Flows) != 0 {
		t.Errorf("Copy of nothing: %v", c)
	}
}

// 5.2, R3: lists that are shared in a process are not in its copy, be it right or not.
func TestCopyParts(t *testing.T) {
	kids := []api.Term{number(1), number(2)}
	shared := api.Term{Op: api.OpAdd, Kids: kids}
	n := with(func(n *api.Net) {
		n.Nodes[3].Term = api.Term{Op: 77, N: -1, Kids: []api.Term{shared, shared, shared}}
		n.Nodes[0].Term, n.Flows[0].Cond, n.Flows[1].Cond = shared, shared, shared
	})
	c := net.Copy(n)
	if !reflect.DeepEqual(c, n) {
		t.Fatalf("Copy: %v", c)
	}
	c.Nodes[3].Term.Kids[1].Kids[0].N = 9
	if !reflect.DeepEqual(c.Nodes[3].Term.Kids[0], shared) || !reflect.DeepEqual(c.Nodes[3].Term.Kids[2], shared) || kids[0].N != 1 {
		t.Errorf("Copy shares lists: %v", c.Nodes[3].Term)
	}
	c.Nodes[0].Term.Kids[0].N = 9
	if !reflect.DeepEqual(c.Flows[0].Cond, shared) || !reflect.DeepEqual(c.Flows[1].Cond, shared) || kids[0].N != 1 {
		t.Errorf("Copy shares lists: %v", c.Flows)
	}
}

// 5.2, P3: a copy of terms that lie deeper than any that are right.
func TestCopyDeep(t *testing.T) {
	n := api.Net{Nodes: []api.Node{{Kind: api.Assign, Term: chain(1000000)}}}
	c := net.Copy(n)
	levels := 0
	for x := &c.Nodes[0].Term; ; x = &x.Kids[0] {
		levels++
		if len(x.Kids) == 0 {
			break
		}
	}
	if levels != 1000000 {
		t.Errorf("Copy is %d levels deep", levels)
	}
}

// P3, R3, R6: calls end at any argument, tell the same again, and change nothing.
func TestEnds(t *testing.T) {
	extremes := []int{math.MinInt, -1, 0, 1, math.MaxInt}
	var n api.Net
	for i, k := range extremes {
		n.Nodes = append(n.Nodes, api.Node{Kind: k, A: extremes[4-i], Term: api.Term{Op: k, N: k}})
		n.Flows = append(n.Flows, api.Flow{From: k, To: extremes[4-i], Else: true, Cond: api.Term{Op: k}})
	}
	for _, n := range []api.Net{n, {Flows: n.Flows}, {Nodes: n.Nodes}, {Nodes: make([]api.Node, 1000000)}, {Flows: make([]api.Flow, 1000000)}} {
		was := net.Copy(n)
		first := net.All(n)
		if !reflect.DeepEqual(net.All(n), first) || !reflect.DeepEqual(n, was) {
			t.Errorf("All tells %v, then another thing", first)
		}
		for _, i := range extremes {
			net.Ins(n, i)
			net.Outs(n, i)
			net.Awaits(n, i)
		}
		net.Start(n)
		net.End(n)
	}
	for what, x := range map[string]api.Term{"a million levels": chain(1000000), "itself": round(1), "themselves": round(2)} {
		wantBroken(t, what, with(func(n *api.Net) { n.Nodes[3].Term = x }), 1, 3)
		wantBroken(t, what, with(func(n *api.Net) { n.Nodes[2].Term = x }), 1, 2)
		wantBroken(t, what, with(func(n *api.Net) { n.Flows[1].Cond = x }), 2, 1)
		wantBroken(t, what, with(func(n *api.Net) { n.Flows[2].Cond = x }), 2, 2)
	}
}

// R3: an answer is new memory each time.
func TestMemory(t *testing.T) {
	n := with(func(n *api.Net) { n.Nodes[2].A = 9 })
	net.All(n)[0].At = 5
	wantBroken(t, "a wrong node", n, 1, 2)
	l := net.Outs(n, 1)
	l[0] = 9
	_ = append(l[:1], 9)
	if !slices.Equal(net.Outs(n, 1), []int{1, 2}) {
		t.Errorf("Outs: %v", net.Outs(n, 1))
	}
}
