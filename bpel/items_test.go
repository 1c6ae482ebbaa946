package bpel_test

import (
	"math"
	"reflect"
	"slices"
	"testing"

	"treenail/api"
	"treenail/bpel"
	"treenail/sample"
)

// place is where an item stands: its parent, its place among the kids, its kind and its node.
type place struct{ parent, at, kind, node int }

// 16.2: each ahead of its kids, these in their order.
func TestItems(t *testing.T) {
	pick := bpel.Act{Kind: bpel.Pick, Node: 3, Kids: []bpel.Act{on(1, 4, wait(4)), on(2, 1, empty())}}
	for i, c := range []struct {
		a    bpel.Act
		want []place
	}{
		{empty(), []place{{-1, 0, bpel.Empty, 0}}},
		{acts(invoke(1), wait(2)), []place{{-1, 0, bpel.Sequence, 0}, {0, 0, bpel.Invoke, 1}, {0, 1, bpel.Wait, 2}}},
		{flow(pick, acts(empty(), wait(5)), invoke(6)), []place{
			{-1, 0, bpel.Flow, 0}, {0, 0, bpel.Pick, 3}, {1, 0, bpel.On, 1}, {2, 0, bpel.Wait, 4}, {1, 1, bpel.On, 2}, {4, 0, bpel.Empty, 0},
			{0, 1, bpel.Sequence, 0}, {6, 0, bpel.Empty, 0}, {6, 1, bpel.Wait, 5}, {0, 2, bpel.Invoke, 6},
		}},
		{some(bpel.Web), []place{{-1, 0, bpel.Web, 0}, {0, 0, bpel.Gate, 1}, {0, 1, bpel.Invoke, 2}, {0, 2, bpel.Gate, 3}}},
		{some(bpel.Rules), []place{{-1, 0, bpel.Rules, 0}}},
		// What is no program has items as well.
		{bpel.Act{}, []place{{-1, 0, 0, 0}}},
		{bpel.Act{Kind: -5, Node: -6, Kids: []bpel.Act{gate(99, 0, 0), {Kids: []bpel.Act{{Node: 7}}}}}, []place{{-1, 0, -5, -6}, {0, 0, bpel.Gate, 99}, {0, 1, 0, 0}, {2, 0, 0, 7}}},
	} {
		var got []place
		l := bpel.Items(c.a)
		for _, x := range l {
			got = append(got, place{x.Parent, x.At, x.Act.Kind, x.Act.Node})
		}
		if !slices.Equal(got, c.want) {
			t.Errorf("%d: %v; want %v", i, got, c.want)
		}
		// An item is the whole activity.
		if len(l) > 0 && !reflect.DeepEqual(l[0].Act, c.a) {
			t.Errorf("%d: %v; want %v", i, l[0].Act, c.a)
		}
		for _, x := range l[1:] {
			if !reflect.DeepEqual(x.Act, l[x.Parent].Act.Kids[x.At]) {
				t.Errorf("%d: %v is not the kid %d of %v", i, x.Act, x.At, l[x.Parent].Act)
			}
		}
	}
}

// 16.2: many, and as deep as is promised.
func TestItemsMany(t *testing.T) {
	for _, levels := range []int{1, 24, 25, 999, 1000} {
		l := bpel.Items(chain(levels, 0))
		if len(l) != levels || l[levels-1].Parent != levels-2 || l[levels-1].Act.Kind != bpel.Empty {
			t.Errorf("%d items of %d levels", len(l), levels)
		}
	}
	l := bpel.Items(row(100000))
	if len(l) != 100000 || l[99999].Parent != 0 || l[99999].At != 99998 {
		t.Errorf("%d items", len(l))
	}
}

// roomy is an activity of all kinds with lists that have spare room, or nothing but that.
func roomy() bpel.Act {
	kids := []bpel.Act{some(bpel.Assign), some(bpel.If), some(bpel.Web), some(bpel.Rules), some(bpel.Gate), some(bpel.Pick)}
	kids[0].Term = api.Term{Op: api.OpAdd, Kids: []api.Term{number(1), {Op: api.OpNeg, Kids: []api.Term{number(2)}}, number(3)}[:2]}
	kids[0].Kids, kids[0].Links, kids[0].Conds = kids[5:5], links(7, 7)[:0], truths(1, 0)[:0]
	kids[3].Net = sample.Of("saxtxe", "0-1 1-2 2-3 2-4 3-4 4-5")
	kids[3].Net.Nodes = append(kids[3].Net.Nodes, api.Node{Kind: 7})[:6]
	kids[3].Net.Flows = append(kids[3].Net.Flows, api.Flow{From: 7})[:6]
	kids[3].Net.Nodes[1].Term = api.Term{Op: api.OpNeg, Kids: []api.Term{number(5)}}
	kids[2].Links = append(kids[2].Links, bpel.Link{From: 7})[:5]
	kids[1].Conds = append(kids[1].Conds, truth())[:2]
	return flow(kids...)
}

// spoil changes all that is in an activity's lists, spare room too.
func spoil(a bpel.Act) {
	spoilTerm(a.Term)
	for _, x := range a.Conds {
		spoilTerm(x)
	}
	for _, x := range a.Net.Nodes {
		spoilTerm(x.Term)
	}
	for _, x := range a.Net.Flows {
		spoilTerm(x.Cond)
	}
	for _, x := range a.Kids {
		spoil(x)
	}
	fill(a.Conds, api.Term{Op: 77})
	fill(a.Kids, bpel.Act{Kind: 77})
	fill(a.Links, bpel.Link{From: 77})
	fill(a.Net.Nodes, api.Node{Kind: 77})
	fill(a.Net.Flows, api.Flow{From: 77})
}

func spoilTerm(t api.Term) {
	for _, x := range t.Kids {
		spoilTerm(x)
	}
	fill(t.Kids, api.Term{Op: 77})
}

func fill[T any](l []T, x T) {
	l = l[:cap(l)]
	for i := range l {
		l[i] = x
	}
}

// R3: items share nothing with what was handed in, nor with one another, spare room too.
func TestItemsMemory(t *testing.T) {
	a := roomy()
	for i := range bpel.Items(a) {
		l := bpel.Items(a)
		spoil(l[i].Act)
		fresh := bpel.Items(roomy())
		l[i].Act = fresh[i].Act
		if !reflect.DeepEqual(l, fresh) {
			t.Errorf("item %d shares lists with others", i)
		}
		if !reflect.DeepEqual(a, roomy()) || a.Kids[3].Net.Nodes[:7][6].Kind != 7 || a.Kids[2].Links[:6][5].From != 7 || a.Kids[0].Kids[:1][0].Kind != bpel.Pick {
			t.Fatalf("item %d shares lists with what was handed in", i)
		}
	}
	l := bpel.Items(a)
	spoil(a)
	if !reflect.DeepEqual(l, bpel.Items(roomy())) {
		t.Error("items share lists with what was handed in")
	}
}

// 16.2: Receives, Ons and Rules await messages; a timer is none.
func TestAwaits(t *testing.T) {
	receive := func(m int) bpel.Act { return bpel.Act{Kind: bpel.Receive, Node: 9, A: m} }
	timed := some(bpel.Rules)
	timed.Net = sample.Of("svmcxe", "0-1 1-2 1-3 2-4 3-4 4-5")
	timed.Net.Nodes[2].A = 2
	for i, c := range []struct {
		a    bpel.Act
		want []int
	}{
		{empty(), nil}, {invoke(1), nil}, {some(bpel.Invoke), nil}, {some(bpel.Assign), nil}, {some(bpel.If), nil}, {some(bpel.Loop), nil}, {some(bpel.Web), nil}, {some(bpel.Rules), nil},
		{wait(1), nil}, {bpel.Act{Kind: bpel.Wait, Node: 1, A: 2}, nil}, {gate(0, 1, 0), nil},
		{receive(0), []int{0}}, {receive(3), []int{3}}, {acts(receive(1), acts(empty(), receive(2))), []int{1, 2}}, {flow(receive(1), receive(1)), []int{1}},
		{on(1, 2, receive(0)), []int{0, 2}}, {on(1, 4, empty()), nil}, {some(bpel.Pick), []int{0}}, {flow(empty(), some(bpel.Pick), receive(3)), []int{0, 3}},
		{timed, []int{2}},
		// What is no program.
		{receive(4), nil}, {receive(-1), nil}, {receive(math.MaxInt), nil}, {on(1, 5, empty()), nil}, {on(1, -1, empty()), nil}, {flow(empty(), timed), []int{2}},
		{bpel.Act{Kind: bpel.Rules, Net: api.Net{Nodes: []api.Node{{Kind: api.Catch, A: 3}, {Kind: api.Catch, A: 9}}}}, []int{3}},
		{bpel.Act{Kind: bpel.Empty, Net: timed.Net}, nil}, {bpel.Act{Kids: []bpel.Act{{}, {Kids: []bpel.Act{receive(1)}}}}, []int{1}},
	} {
		for _, m := range []int{math.MinInt, -2, -1, 0, 1, 2, 3, 4, 5, 9, math.MaxInt} {
			if got := bpel.Awaits(c.a, m); got != slices.Contains(c.want, m) {
				t.Errorf("%d: Awaits %d: %v", i, m, got)
			}
		}
	}
	deep := chain(999, 1)
	bottom := &deep
	for len(bottom.Kids) > 0 {
		bottom = &bottom.Kids[0]
	}
	*bottom = flow(receive(2), empty())
	if !bpel.Awaits(deep, 2) || bpel.Awaits(deep, 1) {
		t.Error("of 1000 levels")
	}
}

// 16.2: Same asks for every field; a list without an element may be nil or empty.
func TestSame(t *testing.T) {
	a := roomy()
	if !bpel.Same(a, roomy()) || !bpel.Same(bpel.Act{}, bpel.Act{}) {
		t.Error("they are not the same")
	}
	for i, change := range []func(b *bpel.Act){
		func(b *bpel.Act) { b.Kind = bpel.Sequence }, func(b *bpel.Act) { b.Node = 1 }, func(b *bpel.Act) { b.A = 1 }, func(b *bpel.Act) { b.B = 1 },
		func(b *bpel.Act) { b.Term = number(0) }, func(b *bpel.Act) { b.Term.N = 1 }, func(b *bpel.Act) { b.Term.Kids = make([]api.Term, 1) },
		func(b *bpel.Act) { b.Conds = make([]api.Term, 1) }, func(b *bpel.Act) { b.Links = make([]bpel.Link, 1) },
		func(b *bpel.Act) { b.Net.Nodes = make([]api.Node, 1) }, func(b *bpel.Act) { b.Net.Flows = make([]api.Flow, 1) },
		func(b *bpel.Act) { b.Kids = b.Kids[:5] }, func(b *bpel.Act) { b.Kids[0], b.Kids[1] = b.Kids[1], b.Kids[0] },
		func(b *bpel.Act) { b.Kids[0].Term.Kids[1].Kids[0].N = 3 }, func(b *bpel.Act) { b.Kids[0].A = 2 },
		func(b *bpel.Act) { b.Kids[1].Conds[0] = number(1) }, func(b *bpel.Act) { b.Kids[1].Conds[1] = truth() }, func(b *bpel.Act) { b.Kids[1].Conds = b.Kids[1].Conds[:1] },
		func(b *bpel.Act) { b.Kids[1].Kids[1].Node = 3 }, func(b *bpel.Act) { b.Kids[1].Kids[1].Kids = make([]bpel.Act, 1) },
		func(b *bpel.Act) { b.Kids[2].Links[1].From = 1 }, func(b *bpel.Act) { b.Kids[2].Links[1].To = 2 }, func(b *bpel.Act) { b.Kids[2].Links = b.Kids[2].Links[1:] },
		func(b *bpel.Act) { b.Kids[2].Links[1], b.Kids[2].Links[2] = b.Kids[2].Links[2], b.Kids[2].Links[1] },
		func(b *bpel.Act) { b.Kids[3].Net.Nodes[2].Kind = api.And }, func(b *bpel.Act) { b.Kids[3].Net.Nodes[3].A = 1 }, func(b *bpel.Act) { b.Kids[3].Net.Nodes[1].Term.Kids[0].N = 6 },
		func(b *bpel.Act) { b.Kids[3].Net.Nodes = b.Kids[3].Net.Nodes[:5] }, func(b *bpel.Act) { b.Kids[3].Net.Flows = b.Kids[3].Net.Flows[:5] },
		func(b *bpel.Act) { b.Kids[3].Net.Flows[0].From = 1 }, func(b *bpel.Act) { b.Kids[3].Net.Flows[0].To = 2 }, func(b *bpel.Act) { b.Kids[3].Net.Flows[3].Else = false },
		func(b *bpel.Act) { b.Kids[3].Net.Flows[2].Cond.Kids[1].N = 9 }, func(b *bpel.Act) { b.Kids[4].B = 0 }, func(b *bpel.Act) { b.Kids[5].Kids[1].A = 1 },
	} {
		b := roomy()
		change(&b)
		if bpel.Same(a, b) || bpel.Same(b, a) || !bpel.Same(b, b) {
			t.Errorf("%d: %v", i, b)
		}
	}
	b := roomy()
	b.Term.Kids, b.Conds, b.Links, b.Net = []api.Term{}, []api.Term{}, []bpel.Link{}, api.Net{Nodes: []api.Node{}, Flows: []api.Flow{}}
	b.Kids[0].Kids, b.Kids[0].Links, b.Kids[0].Conds = nil, nil, nil
	if !bpel.Same(a, b) || !bpel.Same(b, a) {
		t.Error("empty lists make another one")
	}
	if !bpel.Same(chain(1000, 2), chain(1000, 2)) || bpel.Same(chain(1000, 0), chain(999, 0)) || !bpel.Same(row(100000), row(100000)) || bpel.Same(row(100000), row(99999)) {
		t.Error("of many")
	}
}

// 16.2: how many activities there are.
func TestSize(t *testing.T) {
	for i, c := range []struct {
		a    bpel.Act
		want int
	}{
		{bpel.Act{}, 1}, {empty(), 1}, {acts(invoke(1), wait(2)), 3}, {some(bpel.Pick), 5}, {some(bpel.Web), 4}, {some(bpel.Rules), 1}, {flow(some(bpel.If), some(bpel.Loop)), 7},
		{bpel.Act{Kids: make([]bpel.Act, 3)}, 4}, {chain(1000, 0), 1000}, {chain(1000, 3), 3997}, {row(96), 96}, {row(100000), 100000},
	} {
		if n := bpel.Size(c.a); n != c.want {
			t.Errorf("%d: %d; want %d", i, n, c.want)
		}
	}
}

// P3: activities, and terms, that lie in themselves, or too deep; and more of them than an answer has room for.
func TestRound(t *testing.T) {
	for kids := 1; kids < 4; kids++ {
		l, terms := make([]bpel.Act, kids), make([]api.Term, kids)
		for i := range l {
			terms[i] = api.Term{Op: api.OpAdd, Kids: terms}
			l[i] = bpel.Act{Kind: bpel.Sequence, Kids: l}
		}
		tangled := bpel.Act{Kind: bpel.Assign, Term: terms[0], Conds: terms}
		for i, a := range []bpel.Act{l[0], chain(5000, kids), {Kind: bpel.Web, Kids: l, Links: links(-1, 0, 0, -1)}} {
			wantCheck(t, "what lies in itself", a, api.ErrLong)
			bpel.Items(a)
			bpel.Awaits(a, 1)
			bpel.Size(a)
			if bpel.Same(a, chain(9, 0)) || bpel.Same(a, tangled) {
				t.Errorf("%d: it is the same as another one", i)
			}
			bpel.Same(a, a)
		}
		wantCheck(t, "a term that lies in itself", tangled, api.ErrForm)
		wantCheck(t, "a cond that lies in itself", bpel.Act{Kind: bpel.If, Conds: append(terms, api.Term{}), Kids: l}, api.ErrLong)
		bpel.Awaits(tangled, 1)
		bpel.Same(tangled, tangled)
		bpel.Size(tangled)
	}
	// A million million activities, of lists that are shared.
	wide := row(1001)
	for range 3 {
		wide = bpel.Act{Kind: bpel.Flow, Kids: slices.Repeat([]bpel.Act{wide}, 1000)}
	}
	wantCheck(t, "too many", wide, api.ErrLong)
	if l := bpel.Items(wide); len(l) > 0 {
		t.Errorf("%d items", len(l))
	}
}

// R3, R6: what is handed in is left as it is, spare room too, and the same is told again.
func TestUntouched(t *testing.T) {
	a, b := roomy(), roomy()
	for range 2 {
		if e := bpel.Check(a); e != api.ErrForm {
			t.Error(e)
		}
		for _, k := range a.Kids {
			bpel.Check(within(k))
		}
		if len(bpel.Items(a)) != bpel.Size(a) || !bpel.Same(a, b) || bpel.Awaits(a, 1) || !bpel.Awaits(a, 0) {
			t.Error("something else is told")
		}
		if !reflect.DeepEqual(a, roomy()) || !reflect.DeepEqual(a.Kids[3].Net.Nodes[:7], roomy().Kids[3].Net.Nodes[:7]) || a.Kids[2].Links[:6][5].From != 7 {
			t.Fatal("something was changed")
		}
	}
}
