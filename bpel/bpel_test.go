package bpel_test

import (
	"math"
	"slices"
	"testing"

	"treenail/api"
	"treenail/bpel"
	"treenail/sample"
)

func number(n int) api.Term { return api.Term{Op: api.OpNum, N: n} }

func truth() api.Term {
	return api.Term{Op: api.OpEq, Kids: []api.Term{{Op: api.OpVar}, number(1)}}
}

// truths are so many, but for the else one.
func truths(count, other int) []api.Term {
	var l []api.Term
	for range count {
		l = append(l, truth())
	}
	if other >= 0 && other < count {
		l[other] = api.Term{}
	}
	return l
}

func empty() bpel.Act             { return bpel.Act{Kind: bpel.Empty} }
func invoke(node int) bpel.Act    { return bpel.Act{Kind: bpel.Invoke, Node: node} }
func wait(node int) bpel.Act      { return bpel.Act{Kind: bpel.Wait, Node: node} }
func acts(l ...bpel.Act) bpel.Act { return bpel.Act{Kind: bpel.Sequence, Kids: l} }
func flow(l ...bpel.Act) bpel.Act { return bpel.Act{Kind: bpel.Flow, Kids: l} }

func on(node, message int, kid bpel.Act) bpel.Act {
	return bpel.Act{Kind: bpel.On, Node: node, A: message, Kids: []bpel.Act{kid}}
}

// gate is a gate of a kind; one of 3 has so many conds, the last of which is the else one.
func gate(node, kind, conds int) bpel.Act {
	a := bpel.Act{Kind: bpel.Gate, Node: node, A: kind}
	if conds > 0 {
		a.B, a.Conds = conds-1, truths(conds, conds-1)
	}
	return a
}

func links(ends ...int) []bpel.Link {
	var l []bpel.Link
	for i := 0; i < len(ends); i += 2 {
		l = append(l, bpel.Link{From: ends[i], To: ends[i+1]})
	}
	return l
}

// some is a right activity of a kind, that has the nodes from 1 on (a Gate and an On are right as kids only).
func some(kind int) bpel.Act {
	a := bpel.Act{Kind: kind}
	switch kind {
	case bpel.Invoke, bpel.Receive:
		a.Node, a.A = 1, 1
	case bpel.Assign:
		a.Node, a.A, a.Term = 1, 1, number(7)
	case bpel.Wait:
		a.Node = 1
	case bpel.Sequence, bpel.Flow:
		a.Kids = []bpel.Act{invoke(1), empty()}
	case bpel.If:
		a.Node, a.A, a.Conds, a.Kids = 1, 1, truths(2, 1), []bpel.Act{empty(), invoke(2)}
	case bpel.Pick:
		a.Node, a.Kids = 1, []bpel.Act{on(2, 0, empty()), on(3, api.Msgs, empty())}
	case bpel.On:
		a = on(1, 1, invoke(2))
	case bpel.Loop:
		a.Node, a.A, a.B, a.Conds, a.Kids = 1, 1, 1, truths(2, 1), []bpel.Act{empty(), invoke(2)}
	case bpel.Gate:
		a = gate(1, 3, 2)
	case bpel.Web:
		a.Kids, a.Links = []bpel.Act{gate(1, 3, 2), invoke(2), gate(3, 4, 0)}, links(-1, 0, 0, 1, 0, 2, 1, 2, 2, -1)
	case bpel.Rules:
		a.Net = sample.Of("ste", "0-1 1-2")
	}
	return a
}

func wantCheck(t *testing.T, what string, a bpel.Act, want api.Errno) {
	t.Helper()
	if e := bpel.Check(a); e != want {
		t.Errorf("Check of %s: %v; want %v", what, e, want)
	}
}

// within is the activity as a program: as a kid of one that has the nodes from 20 on, if it is none by itself.
func within(a bpel.Act) bpel.Act {
	switch a.Kind {
	case bpel.On:
		return bpel.Act{Kind: bpel.Pick, Node: 20, Kids: []bpel.Act{on(21, 0, empty()), a}}
	case bpel.Gate:
		// It has one in, and an out for each cond, or two ins and one out.
		switch a.A {
		case 1:
			return bpel.Act{Kind: bpel.Web, Kids: []bpel.Act{a, gate(20, 2, 0)}, Links: links(-1, 0, 0, 1, 0, 1, 1, -1)}
		case 2, 4:
			return bpel.Act{Kind: bpel.Web, Kids: []bpel.Act{gate(20, 1, 0), a}, Links: links(-1, 0, 0, 1, 0, 1, 1, -1)}
		}
		w := bpel.Act{Kind: bpel.Web, Kids: []bpel.Act{a, gate(20, 4, 0)}, Links: links(-1, 0, 1, -1)}
		for range a.Conds {
			w.Links = append(w.Links, bpel.Link{From: 0, To: 1})
		}
		return w
	}
	return a
}

// 16.1: the chapter's example.
func TestExample(t *testing.T) {
	wantCheck(t, "Invoke and Wait", acts(invoke(1), wait(2)), api.OK)
	wantCheck(t, "twice Invoke 1", acts(invoke(1), invoke(1)), api.ErrSame)
}

// 16.1: each kind is right as some are, a Gate and an On as a kid only; no other number is a kind.
func TestKinds(t *testing.T) {
	for kind := bpel.Empty; kind <= bpel.Rules; kind++ {
		a, want := some(kind), api.OK
		if kind == bpel.On || kind == bpel.Gate {
			want = api.ErrForm
		}
		wantCheck(t, "some "+name(kind), a, want)
		wantCheck(t, "some "+name(kind)+" within", within(a), api.OK)
	}
	for _, kind := range []int{0, -1, 15, 16, math.MinInt, math.MaxInt} {
		wantCheck(t, "no kind", bpel.Act{Kind: kind}, api.ErrForm)
		wantCheck(t, "no kind with a node", bpel.Act{Kind: kind, Node: 1}, api.ErrForm)
		wantCheck(t, "a kid of no kind", flow(empty(), bpel.Act{Kind: kind}), api.ErrForm)
		wantCheck(t, "a web of no kind", bpel.Act{Kind: bpel.Web, Kids: []bpel.Act{{Kind: kind}}, Links: links(-1, 0, 0, -1)}, api.ErrForm)
	}
}

func name(kind int) string {
	return []string{"", "empty", "invoke", "assign", "receive", "wait", "sequence", "flow", "if", "pick", "on", "loop", "gate", "web", "rules"}[kind]
}

// change is what is changed of an activity, and the kinds that are right with it still.
type change struct {
	what  string
	to    func(a *bpel.Act)
	right []int
}

func changes() []change {
	nodes := []int{bpel.Invoke, bpel.Assign, bpel.Receive, bpel.Wait, bpel.If, bpel.Pick, bpel.On, bpel.Loop, bpel.Gate}
	node := func(i int) func(a *bpel.Act) { return func(a *bpel.Act) { a.Node = i } }
	first := func(i int) func(a *bpel.Act) { return func(a *bpel.Act) { a.A = i } }
	second := func(i int) func(a *bpel.Act) { return func(a *bpel.Act) { a.B = i } }
	kids := func(l ...bpel.Act) func(a *bpel.Act) { return func(a *bpel.Act) { a.Kids = l } }
	conds := func(count, other int) func(a *bpel.Act) {
		return func(a *bpel.Act) { a.Conds = truths(count, other) }
	}
	term := func(x api.Term) func(a *bpel.Act) { return func(a *bpel.Act) { a.Term = x } }
	return []change{
		{"node 0", node(0), []int{1, 2, 3, 4, 5, 6, 7, 8, 9, 10, 11, 12, 13, 14}},
		{"node 16", node(16), nodes},
		{"node 23", node(api.MaxNodes - 1), nodes},
		{"node 24", node(api.MaxNodes), nil},
		{"node -1", node(-1), nil},
		{"the least node", node(math.MinInt), nil},
		{"the greatest node", node(math.MaxInt), nil},
		{"a 0", first(0), []int{1, 2, 3, 4, 5, 6, 7, 9, 10, 13, 14}},
		{"a 1", first(1), []int{2, 3, 4, 8, 10, 11}},
		{"a 2", first(2), []int{2, 3, 4, 10}},
		{"a 3", first(3), []int{2, 3, 4, 10, 12}},
		{"a 4", first(4), []int{10}},
		{"a 5", first(5), nil},
		{"a -1", first(-1), nil},
		{"the least a", first(math.MinInt), nil},
		{"the greatest a", first(math.MaxInt), nil},
		{"b 0", second(0), []int{1, 2, 3, 4, 5, 6, 7, 8, 9, 10, 11, 13, 14}},
		{"b 1", second(1), []int{11, 12}},
		{"b 2", second(2), nil},
		{"b -1", second(-1), nil},
		{"the least b", second(math.MinInt), nil},
		{"the greatest b", second(math.MaxInt), nil},
		{"no term", term(api.Term{}), []int{1, 2, 4, 5, 6, 7, 8, 9, 10, 11, 12, 13, 14}},
		{"no term, with an empty list", term(api.Term{Kids: []api.Term{}}), []int{1, 2, 4, 5, 6, 7, 8, 9, 10, 11, 12, 13, 14}},
		{"another number", term(number(api.MaxInt)), []int{3}},
		{"no number", term(number(-1)), nil},
		{"a truth", term(truth()), nil},
		{"half a term", term(api.Term{N: 1}), nil},
		{"a term's kids alone", term(api.Term{Kids: []api.Term{number(1)}}), nil},
		{"no conds", conds(0, 0), []int{1, 2, 3, 4, 5, 6, 7, 9, 10, 13, 14}},
		{"a cond", conds(1, 9), nil},
		{"two conds", conds(2, 1), []int{8, 11, 12}},
		{"two conds, the first else", conds(2, 0), nil},
		{"two conds, none else", conds(2, 9), nil},
		{"three conds", conds(3, 1), []int{12}},
		{"no kids", kids(), []int{1, 2, 3, 4, 5, 12, 14}},
		{"a kid", kids(empty()), []int{10}},
		{"two kids", kids(empty(), empty()), []int{6, 7, 8, 11}},
		{"three kids", kids(empty(), empty(), empty()), []int{6, 7}},
		{"two Ons", kids(on(7, 1, empty()), on(8, 1, empty())), []int{9}},
		{"three Ons", kids(on(7, 1, empty()), on(8, 4, empty()), on(9, 1, empty())), []int{9}},
		{"an On", kids(on(7, 1, empty())), nil},
		{"an On and another one", kids(on(7, 1, empty()), empty()), nil},
		{"another one and an On", kids(empty(), on(7, 1, empty())), nil},
		{"no links", func(a *bpel.Act) { a.Links = nil }, []int{1, 2, 3, 4, 5, 6, 7, 8, 9, 10, 11, 12, 14}},
		{"a link", func(a *bpel.Act) { a.Links = links(0, 0) }, nil},
		{"two links", func(a *bpel.Act) { a.Links = links(-1, 0, 0, -1) }, nil},
		{"no net", func(a *bpel.Act) { a.Net = api.Net{} }, []int{1, 2, 3, 4, 5, 6, 7, 8, 9, 10, 11, 12, 13}},
		{"a net", func(a *bpel.Act) { a.Net = sample.Of("se", "0-1") }, []int{14}},
		{"nodes alone", func(a *bpel.Act) { a.Net = api.Net{Nodes: make([]api.Node, 1)} }, nil},
		{"flows alone", func(a *bpel.Act) { a.Net = api.Net{Flows: make([]api.Flow, 1)} }, nil},
		{"empty lists", func(a *bpel.Act) {
			a.Conds, a.Kids, a.Links = append([]api.Term{}, a.Conds...), append([]bpel.Act{}, a.Kids...), append([]bpel.Link{}, a.Links...)
			a.Net = api.Net{Nodes: append([]api.Node{}, a.Net.Nodes...), Flows: append([]api.Flow{}, a.Net.Flows...)}
		}, []int{1, 2, 3, 4, 5, 6, 7, 8, 9, 10, 11, 12, 13, 14}},
	}
}

// 16.1: what each kind has, and from where to where; what it doesn't have is 0, or the zero one, or empty.
func TestWhatKindsHave(t *testing.T) {
	for kind := bpel.Empty; kind <= bpel.Rules; kind++ {
		for _, c := range changes() {
			a, want := some(kind), api.ErrForm
			if slices.Contains(c.right, kind) {
				want = api.OK
			}
			c.to(&a)
			wantCheck(t, name(kind)+" with "+c.what, within(a), want)
		}
	}
}
