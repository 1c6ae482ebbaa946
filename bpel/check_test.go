package bpel_test

import (
	"math"
	"slices"
	"testing"

	"treenail/api"
	"treenail/bpel"
	"treenail/sample"
)

// nots is a truth of so many levels, two at least.
func nots(levels int) api.Term {
	x := truth()
	for range levels - 2 {
		x = api.Term{Op: api.OpNot, Kids: []api.Term{x}}
	}
	return x
}

// 16.1: conds are truths, the else one is the zero term, wherever it stands.
func TestConds(t *testing.T) {
	zeros := []api.Term{{}, {Kids: []api.Term{}}}
	right := []api.Term{truth(), nots(api.MaxDepth)}
	wrong := []api.Term{nots(api.MaxDepth + 1), number(1), {Op: api.OpVar}, {N: 1}, {Op: 99}, {Op: api.OpNot}, {Kids: []api.Term{{}}}}
	for kids := 2; kids <= 12; kids++ {
		for other := range kids {
			conds := truths(kids, other)
			a := bpel.Act{Kind: bpel.If, Node: 1, A: other, Conds: conds, Kids: slices.Repeat([]bpel.Act{empty()}, kids)}
			g := within(bpel.Act{Kind: bpel.Gate, Node: 1, A: 3, B: other, Conds: conds})
			put := func(i int, l []api.Term, want api.Errno) {
				was := conds[i]
				for _, conds[i] = range l {
					wantCheck(t, "If", a, want)
					wantCheck(t, "Gate", g, want)
				}
				conds[i] = was
			}
			for i := range conds {
				good, bad := right, zeros
				if i == other {
					good, bad = zeros, right
				}
				put(i, good, api.OK)
				put(i, bad, api.ErrForm)
				put(i, wrong, api.ErrForm)
			}
		}
	}
	for other := range 2 {
		for leaves := range 2 {
			a := bpel.Act{Kind: bpel.Loop, Node: 1, A: other, B: leaves, Conds: truths(2, other), Kids: []bpel.Act{empty(), empty()}}
			wantCheck(t, "Loop", a, api.OK)
			a.Conds = truths(2, 1-other)
			wantCheck(t, "Loop with another else", a, api.ErrForm)
		}
	}
}

// 16.1: as many conds as kids.
func TestHowManyConds(t *testing.T) {
	for kids := range 6 {
		for conds := range 6 {
			want := api.ErrForm
			if kids == conds && kids >= 2 {
				want = api.OK
			}
			a := bpel.Act{Kind: bpel.If, Node: 1, Conds: truths(conds, 0), Kids: slices.Repeat([]bpel.Act{empty()}, kids)}
			wantCheck(t, "If", a, want)
			if kids != 2 {
				want = api.ErrForm
			}
			a.Kind = bpel.Loop
			wantCheck(t, "Loop", a, want)
		}
	}
}

// 16.1: which kinds may be kids of which.
func TestKids(t *testing.T) {
	for kind := bpel.Empty; kind <= bpel.Rules; kind++ {
		// The nodes of some begin with 1, those of within with 20.
		kid := some(kind)
		plain := slices.Index([]int{bpel.On, bpel.Gate, bpel.Web, bpel.Rules}, kind) < 0
		for _, c := range []struct {
			what  string
			a     bpel.Act
			right bool
		}{
			{"Sequence", acts(empty(), kid), plain},
			{"Sequence, as the first", acts(kid, wait(9)), plain},
			{"Flow", flow(kid, empty()), plain},
			{"If", bpel.Act{Kind: bpel.If, Node: 9, Conds: truths(2, 0), Kids: []bpel.Act{empty(), kid}}, plain},
			{"Loop", bpel.Act{Kind: bpel.Loop, Node: 9, Conds: truths(2, 0), Kids: []bpel.Act{kid, empty()}}, plain},
			{"Pick", bpel.Act{Kind: bpel.Pick, Node: 9, Kids: []bpel.Act{on(10, 0, empty()), kid}}, kind == bpel.On},
			{"On", within(on(9, 0, kid)), plain},
			{"Web", bpel.Act{Kind: bpel.Web, Kids: []bpel.Act{kid}, Links: links(-1, 0, 0, -1)}, plain},
		} {
			want := api.ErrForm
			if c.right {
				want = api.OK
			}
			wantCheck(t, name(kind)+" in a "+c.what, c.a, want)
		}
	}
}

// 16.1: how many ins and outs a web's kids have.
func TestJoints(t *testing.T) {
	for ins := range 5 {
		for outs := range 5 {
			for what, c := range map[string]struct {
				kid   bpel.Act
				right bool
			}{
				"Empty":        {empty(), ins == 1 && outs == 1},
				"If":           {some(bpel.If), ins == 1 && outs == 1},
				"gate 1":       {gate(1, 1, 0), ins == 1 && outs >= 2},
				"gate 2":       {gate(1, 2, 0), ins >= 2 && outs == 1},
				"gate 3 of 2":  {gate(1, 3, 2), ins == 1 && outs == 2},
				"gate 3 of 3":  {gate(1, 3, 3), ins == 1 && outs == 3},
				"gate 4":       {gate(1, 4, 0), ins >= 2 && outs == 1},
				"gate 3 of 1":  {gate(1, 3, 1), false},
				"gate 3 alone": {gate(1, 3, 0), false},
			} {
				want := api.ErrForm
				if c.right {
					want = api.OK
				}
				wantCheck(t, what, between(c.kid, ins, outs), want)
			}
		}
	}
	for _, kind := range []int{0, -1, 5, math.MinInt, math.MaxInt} {
		for _, ends := range [][2]int{{1, 1}, {1, 2}, {2, 1}} {
			wantCheck(t, "no kind of gate", between(gate(1, kind, 0), ends[0], ends[1]), api.ErrForm)
		}
	}
}

// between is a web of a kid with so many ins and outs, and of two gates ahead of it and behind it, which are right whatever the kid has.
func between(kid bpel.Act, ins, outs int) bpel.Act {
	w := bpel.Act{Kind: bpel.Web, Kids: []bpel.Act{kid, gate(11, 1, 0), gate(12, 2, 0)}, Links: links(-1, 1, 1, 2, 1, 2, 2, -1)}
	w.Links = append(w.Links, slices.Repeat(links(1, 0), ins)...)
	w.Links = append(w.Links, slices.Repeat(links(0, 2), outs)...)
	return w
}

// 16.1: links lead from kids to kids; one into the web, one out of it; nothing goes round.
func TestLinks(t *testing.T) {
	split, join := gate(1, 1, 0), gate(2, 2, 0)
	second, other := gate(3, 1, 0), gate(4, 4, 0)
	for i, c := range []struct {
		kids  []bpel.Act
		links []bpel.Link
		right bool
	}{
		{[]bpel.Act{empty()}, links(-1, 0, 0, -1), true},
		{[]bpel.Act{empty()}, links(0, -1, -1, 0), true},
		{[]bpel.Act{empty(), empty()}, links(-1, 1, 1, 0, 0, -1), true},
		{[]bpel.Act{split, join}, links(-1, 0, 0, 1, 0, 1, 1, -1), true},
		{[]bpel.Act{join, split}, links(0, -1, 1, 0, 1, 0, -1, 1), true},
		{[]bpel.Act{split, second, join, other, wait(5)}, links(-1, 0, 0, 1, 0, 2, 1, 4, 4, 2, 1, 3, 2, 3, 3, -1), true},
		{nil, nil, false},
		{nil, links(-1, -1), false},
		{[]bpel.Act{empty()}, nil, false},
		{[]bpel.Act{empty()}, links(-1, -1), false},
		{[]bpel.Act{empty()}, links(-1, 0), false},
		{[]bpel.Act{empty()}, links(0, -1), false},
		{[]bpel.Act{empty()}, links(-1, 0, 0, -1, -1, -1), false},
		{[]bpel.Act{empty(), empty()}, links(-1, 0, 0, -1), false},
		{[]bpel.Act{empty(), empty()}, links(-1, 0, 0, -1, -1, 1, 1, -1), false},
		// Not one alone that leads in, or out.
		{[]bpel.Act{join}, links(-1, 0, -1, 0, 0, -1), false},
		{[]bpel.Act{split}, links(-1, 0, 0, -1, 0, -1), false},
		{[]bpel.Act{empty(), join}, links(-1, 0, -1, 1, 0, 1, 1, -1), false},
		{[]bpel.Act{split, empty()}, links(-1, 0, 0, 1, 0, -1, 1, -1), false},
		// No places.
		{[]bpel.Act{empty()}, links(-1, 0, 0, 1), false},
		{[]bpel.Act{empty()}, links(1, 0, 0, -1), false},
		{[]bpel.Act{empty()}, links(-1, 0, 0, -2), false},
		{[]bpel.Act{empty()}, links(-2, 0, 0, -1), false},
		{[]bpel.Act{empty()}, links(-1, 0, 0, -1, 1, 1), false},
		{[]bpel.Act{empty()}, links(-1, 0, 0, -1, -2, -2), false},
		{[]bpel.Act{empty()}, links(math.MinInt, 0, 0, -1), false},
		{[]bpel.Act{empty()}, links(-1, 0, 0, math.MaxInt), false},
		// It goes round, apart from the way through, or on it.
		{[]bpel.Act{empty(), empty()}, links(-1, 0, 0, -1, 1, 1), false},
		{[]bpel.Act{empty(), empty(), empty()}, links(-1, 0, 0, -1, 1, 2, 2, 1), false},
		{[]bpel.Act{empty()}, links(-1, -1, 0, 0), false},
		{[]bpel.Act{join, split}, links(-1, 0, 0, 1, 1, 0, 1, -1), false},
		{[]bpel.Act{join, split}, links(-1, 0, 0, 1, 1, -1, 1, 0), false},
		{[]bpel.Act{split, join, second, other}, links(-1, 3, 3, 0, 0, 1, 0, 1, 1, 2, 2, 3, 2, -1), false},
		{[]bpel.Act{other, split}, links(-1, 0, 0, 1, 1, 1, 1, -1), false},
	} {
		want := api.ErrForm
		if c.right {
			want = api.OK
		}
		if e := bpel.Check(bpel.Act{Kind: bpel.Web, Kids: c.kids, Links: c.links}); e != want {
			t.Errorf("%d: %v; want %v", i, e, want)
		}
	}
}

// 16.1: as many links as there may be, and one more.
func TestHowManyLinks(t *testing.T) {
	for outs := 2; outs <= 60; outs++ {
		want := api.ErrForm
		if outs+2 <= api.MaxFlows {
			want = api.OK
		}
		for _, first := range []bpel.Act{gate(1, 1, 0), gate(1, 3, outs)} {
			w := bpel.Act{Kind: bpel.Web, Kids: []bpel.Act{first, gate(2, 4, 0)}, Links: links(-1, 0, 1, -1)}
			for range outs {
				w.Links = append(w.Links, bpel.Link{From: 0, To: 1})
			}
			wantCheck(t, "a gate of many outs", w, want)
		}
	}
	for kids := 1; kids <= 80; kids++ {
		want := api.ErrForm
		if kids+1 <= api.MaxFlows {
			want = api.OK
		}
		w := bpel.Act{Kind: bpel.Web, Kids: slices.Repeat([]bpel.Act{empty()}, kids), Links: links(kids-1, -1)}
		for i := range kids {
			w.Links = append(w.Links, bpel.Link{From: i - 1, To: i})
		}
		wantCheck(t, "kids in a row", w, want)
	}
}

// 16.1: a Rules' process is right by all rules.
func TestRules(t *testing.T) {
	for _, n := range []api.Net{
		{}, sample.Of("ste", "0-1"), sample.Of("ste", "0-1 1-2 1-2"), sample.Of("sstxe", "0-3 1-2 2-3 3-4"), sample.Of("stexx", "0-1 1-2 3-4 4-3"), sample.Of("s?e", "0-1 1-2"),
	} {
		wantCheck(t, "a wrong process", bpel.Act{Kind: bpel.Rules, Net: n}, api.ErrForm)
	}
	wantCheck(t, "a fork joined by a choice", bpel.Act{Kind: bpel.Rules, Net: sample.Of("sntxe", "0-1 1-2 1-3 2-3 3-4")}, api.OK)
}

// chain is a chain of so many activities that lie in one another, each one beside so many Empties.
func chain(levels, beside int) bpel.Act {
	a := empty()
	for range levels - 1 {
		a = bpel.Act{Kind: bpel.Flow, Kids: append([]bpel.Act{a}, slices.Repeat([]bpel.Act{empty()}, beside)...)}
	}
	return a
}

// row is a Sequence of so many activities, with itself.
func row(count int) bpel.Act {
	return bpel.Act{Kind: bpel.Sequence, Kids: slices.Repeat([]bpel.Act{empty()}, count-1)}
}

// 16.1: how many, and how deep, at the limit and one past it; and what is told first.
func TestLimits(t *testing.T) {
	wantCheck(t, "96 activities", row(bpel.Most), api.OK)
	wantCheck(t, "97 activities", row(bpel.Most+1), api.ErrLong)
	wantCheck(t, "100000 activities", row(100000), api.ErrLong)
	wantCheck(t, "24 levels", chain(24, 1), api.OK)
	wantCheck(t, "25 levels", chain(25, 1), api.ErrLong)
	wantCheck(t, "24 levels, and a wrong one", chain(24, 0), api.ErrForm)
	wantCheck(t, "25 levels of wrong ones", chain(25, 0), api.ErrLong)
	wantCheck(t, "5000 levels", chain(5000, 0), api.ErrLong)
	deep := acts(chain(23, 1))
	deep.Kids = append(deep.Kids, row(51).Kids...)
	wantCheck(t, "96 activities, 24 levels", deep, api.OK)
	deep.Kids = append(deep.Kids, empty())
	wantCheck(t, "97 activities, 24 levels", deep, api.ErrLong)
	wantCheck(t, "On, too deep", on(1, 0, chain(24, 1)), api.ErrLong)

	wrong := row(bpel.Most + 1)
	wrong.Kids[1], wrong.Kids[2], wrong.Kids[3] = invoke(1), invoke(1), bpel.Act{Kind: 77}
	wantCheck(t, "too many, a wrong one, and one twice", wrong, api.ErrLong)
	wrong.Kids = wrong.Kids[:len(wrong.Kids)-1]
	wantCheck(t, "a wrong one, and one twice", wrong, api.ErrForm)
	wrong.Kids[3] = empty()
	wantCheck(t, "one twice", wrong, api.ErrSame)
	wrong.Kids[2].Node = 2
	wantCheck(t, "none twice", wrong, api.OK)
	wantCheck(t, "too many kids of an Invoke", bpel.Act{Kind: bpel.Invoke, Kids: row(97).Kids}, api.ErrLong)
	wantCheck(t, "one twice ahead of a wrong one", acts(invoke(1), invoke(1), invoke(24)), api.ErrForm)
}

// bare is some activity of a kind and a node, in which no other node stands but those of a Pick's Ons.
func bare(kind, node, ons int) bpel.Act {
	a := some(kind)
	a.Node = node
	for i := range a.Kids {
		a.Kids[i] = empty()
		if kind == bpel.Pick {
			a.Kids[i] = on(ons+i, 0, empty())
		}
	}
	return a
}

// 16.1: a Node may not stand in it twice, of whatever kinds; the 0 of others is none.
func TestTwice(t *testing.T) {
	having := []int{bpel.Invoke, bpel.Assign, bpel.Receive, bpel.Wait, bpel.If, bpel.Pick, bpel.Loop}
	for _, a := range having {
		for _, b := range having {
			wantCheck(t, name(a)+" and "+name(b), flow(bare(a, 12, 1), bare(b, 13, 3)), api.OK)
			wantCheck(t, name(a)+" and "+name(b)+" of one node", flow(bare(a, 13, 1), bare(b, 13, 3)), api.ErrSame)
			wantCheck(t, name(a)+" and "+name(b)+" of node 0", flow(bare(a, 0, 1), bare(b, 0, 3)), api.ErrSame)
		}
	}
	pick := some(bpel.Pick)
	pick.Kids[1].Node = 2
	wantCheck(t, "two Ons of one node", pick, api.ErrSame)
	pick.Kids[1].Node = 1
	wantCheck(t, "a Pick and an On of one node", pick, api.ErrSame)
	pick.Kids[1] = on(3, 0, wait(3))
	wantCheck(t, "an On and its kid of one node", pick, api.ErrSame)
	web := some(bpel.Web)
	web.Kids[2].Node = 1
	wantCheck(t, "two Gates of one node", web, api.ErrSame)
	web.Kids[2].Node = 2
	wantCheck(t, "a Gate and an Invoke of one node", web, api.ErrSame)
	web.Kids[2].Node, web.Kids[1] = 0, acts(empty(), flow(empty(), empty()))
	wantCheck(t, "a Gate of node 0 beside kinds that have none", web, api.OK)
	wantCheck(t, "in one another", bpel.Act{Kind: bpel.If, Node: 4, Conds: truths(2, 0), Kids: []bpel.Act{empty(), acts(empty(), wait(4))}}, api.ErrSame)
	wantCheck(t, "node 0 beside kinds that have none", acts(invoke(0), empty(), flow(empty(), empty())), api.OK)
	all := acts()
	for i := range api.MaxNodes {
		all.Kids = append(all.Kids, invoke(i))
	}
	wantCheck(t, "all nodes", all, api.OK)
	all.Kids = append(all.Kids, wait(7))
	wantCheck(t, "all nodes and one", all, api.ErrSame)
}
