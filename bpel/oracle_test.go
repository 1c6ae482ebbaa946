package bpel_test

import (
	"math/rand"
	"reflect"
	"slices"
	"testing"

	"treenail/api"
	"treenail/bpel"
	"treenail/net"
	"treenail/sample"
	"treenail/term"
)

// entry is an activity, what it is a kid of, and how deep it lies.
type entry struct {
	a     *bpel.Act
	outer string
	deep  int
}

// entries are an activity and all in it, level by level.
func entries(a *bpel.Act) []entry {
	l := []entry{{a, "", 1}}
	for i := 0; i < len(l); i++ {
		for k := range l[i].a.Kids {
			l = append(l, entry{&l[i].a.Kids[k], kindOf(*l[i].a), l[i].deep + 1})
		}
	}
	return l
}

func kindOf(a bpel.Act) string {
	if a.Kind < bpel.Empty || a.Kind > bpel.Rules {
		return "none"
	}
	return name(a.Kind)
}

// asked is what the chapter's table asks of a kind: from where to where its numbers are, how many kids and conds there are, and which one is else.
type asked struct {
	node, a, b  [2]int
	kids, conds [2]int
	other       int
}

func rows(a bpel.Act) map[string]asked {
	node, many := [2]int{0, api.MaxNodes - 1}, [2]int{2, 9999}
	variable, kids := [2]int{0, api.Vars - 1}, [2]int{len(a.Kids), len(a.Kids)}
	l := map[string]asked{
		"empty":    {},
		"invoke":   {node: node, a: variable},
		"assign":   {node: node, a: variable},
		"receive":  {node: node, a: [2]int{0, api.Msgs - 1}},
		"wait":     {node: node},
		"sequence": {kids: many},
		"flow":     {kids: many},
		"if":       {node: node, a: [2]int{0, len(a.Kids) - 1}, kids: many, conds: kids, other: a.A},
		"pick":     {node: node, kids: many},
		"on":       {node: node, a: [2]int{0, api.Msgs}, kids: [2]int{1, 1}},
		"loop":     {node: node, a: [2]int{0, 1}, b: [2]int{0, 1}, kids: [2]int{2, 2}, conds: [2]int{2, 2}, other: a.A},
		"gate":     {node: node, a: [2]int{1, 4}},
		"web":      {kids: [2]int{1, 64}},
		"rules":    {},
	}
	if a.A == 3 {
		l["gate"] = asked{node: node, a: [2]int{1, 4}, b: [2]int{0, len(a.Conds) - 1}, conds: many, other: a.B}
	}
	return l
}

func from(x int, limits [2]int) bool { return x >= limits[0] && x <= limits[1] }

// isRight tells whether an entry is of the table's form, where it stands.
func isRight(x entry) bool {
	a, kind := *x.a, kindOf(*x.a)
	row, ok := rows(a)[kind]
	if !ok || !from(a.Node, row.node) || !from(a.A, row.a) || !from(a.B, row.b) || !from(len(a.Kids), row.kids) || !from(len(a.Conds), row.conds) {
		return false
	}
	for i, c := range a.Conds {
		is, e := term.Check(c)
		if i == row.other && (c.Op != 0 || c.N != 0 || len(c.Kids) != 0) || i != row.other && (e != api.OK || is != term.Truth) {
			return false
		}
	}
	is, e := term.Check(a.Term)
	zero := a.Term.Op == 0 && a.Term.N == 0 && len(a.Term.Kids) == 0
	if kind == "assign" && (e != api.OK || is != term.Number) || kind != "assign" && !zero {
		return false
	}
	rule, _ := net.Check(a.Net)
	if kind == "rules" && rule != 0 || kind != "rules" && len(a.Net.Nodes)+len(a.Net.Flows) > 0 {
		return false
	}
	if kind == "web" && !weaves(a) || kind != "web" && len(a.Links) > 0 {
		return false
	}
	switch kind {
	case "on":
		return x.outer == "pick"
	case "gate":
		return x.outer == "web"
	case "web", "rules":
		return x.outer == ""
	}
	return x.outer != "pick"
}

// weaves tells whether a web's links are right: tokens that all kids hand on to all that is behind them come to an end, and each kid has as many ins and outs as it must.
func weaves(w bpel.Act) bool {
	ins, outs := map[int]int{}, map[int]int{}
	for _, l := range w.Links {
		if l.From < -1 || l.To < -1 || l.From >= len(w.Kids) || l.To >= len(w.Kids) {
			return false
		}
		outs[l.From]++
		ins[l.To]++
	}
	if ins[-1] != 1 || outs[-1] != 1 || len(w.Links) > api.MaxFlows {
		return false
	}
	for i, k := range w.Kids {
		wanted := []bool{ins[i] == 1 && outs[i] == 1}
		if kindOf(k) == "gate" {
			wanted = []bool{false, ins[i] == 1 && outs[i] > 1, ins[i] > 1 && outs[i] == 1, ins[i] == 1 && outs[i] == len(k.Conds), ins[i] > 1 && outs[i] == 1}
			wanted = wanted[max(0, min(k.A, 4)):]
		}
		if !wanted[0] {
			return false
		}
	}
	holds := make([]bool, len(w.Kids))
	for i := range holds {
		holds[i] = true
	}
	for range w.Kids {
		next := make([]bool, len(w.Kids))
		for _, l := range w.Links {
			if l.From >= 0 && l.To >= 0 && holds[l.From] {
				next[l.To] = true
			}
		}
		holds = next
	}
	return !slices.Contains(holds, true)
}

// check is what is wrong with an activity.
func check(a bpel.Act) api.Errno {
	l := entries(&a)
	if len(l) > 96 || l[len(l)-1].deep > 24 {
		return api.ErrLong
	}
	if slices.ContainsFunc(l, func(x entry) bool { return !isRight(x) }) || kindOf(a) == "on" || kindOf(a) == "gate" {
		return api.ErrForm
	}
	times := map[int]int{}
	for _, x := range l {
		if rows(*x.a)[kindOf(*x.a)].node[1] > 0 {
			times[x.a.Node]++
		}
		if times[x.a.Node] > 1 {
			return api.ErrSame
		}
	}
	return api.OK
}

func copied(a bpel.Act) bpel.Act {
	a.Conds, a.Kids, a.Links = slices.Clone(a.Conds), slices.Clone(a.Kids), slices.Clone(a.Links)
	a.Net = net.Copy(a.Net)
	for i := range a.Kids {
		a.Kids[i] = copied(a.Kids[i])
	}
	return a
}

// alter changes something of an activity, or of one in it.
func alter(a *bpel.Act, r *rand.Rand) {
	l := entries(a)
	x, y := l[r.Intn(len(l))].a, copied(*l[r.Intn(len(l))].a)
	near := func(n int) int { return r.Intn(n+3) - 1 }
	terms := []api.Term{{}, truth(), number(3), {Op: api.OpNot}, {N: 1}}
	switch r.Intn(16) {
	case 0:
		x.Kind = near(bpel.Rules)
	case 1:
		x.Node = near(api.MaxNodes)
	case 2:
		x.A = near(4)
	case 3:
		x.B = near(2)
	case 4:
		x.Term = terms[r.Intn(len(terms))]
	case 5:
		x.Conds = append(x.Conds, terms[r.Intn(len(terms))])
	case 6:
		if len(x.Conds) > 0 {
			x.Conds[r.Intn(len(x.Conds))] = terms[r.Intn(len(terms))]
		}
	case 7:
		x.Kids = x.Kids[:r.Intn(len(x.Kids)+1)]
	case 8:
		x.Kids = append(x.Kids, y)
	case 9:
		*x = y
	case 10:
		if len(x.Kids) > 0 {
			x.Kids[r.Intn(len(x.Kids))] = y
		}
	case 11:
		x.Links = append(x.Links, bpel.Link{From: near(len(x.Kids)), To: near(len(x.Kids))})
	case 12:
		if len(a.Links) > 1 {
			f, g := &a.Links[r.Intn(len(a.Links))], &a.Links[r.Intn(len(a.Links))]
			f.To, g.To = g.To, f.To
		}
	case 13:
		if len(a.Links) > 0 {
			at := r.Intn(len(a.Links))
			a.Links = slices.Delete(a.Links, at, at+1)
		}
	case 14:
		if len(x.Net.Flows) > 0 {
			f := &x.Net.Flows[r.Intn(len(x.Net.Flows))]
			f.To = r.Intn(len(x.Net.Nodes))
		}
	case 15:
		for range 20 * r.Intn(2) {
			x.Kids = append(x.Kids, copied(y))
		}
	}
}

// 16.1, 16.2, 16.3: any programs, and what becomes of them if something is changed.
func TestAnyPrograms(t *testing.T) {
	r := rand.New(rand.NewSource(16))
	times := map[api.Errno]int{}
	for range 2500 {
		a := sample.Program(r.Intn)
		for step := range 5 {
			e := check(a)
			if got := bpel.Check(a); got != e || step == 0 && e != api.OK {
				t.Fatalf("Check of %v: %v; want %v", a, got, e)
			}
			times[e]++
			wantItems(t, a)
			if e == api.OK {
				wantParts(t, a)
			}
			was := copied(a)
			alter(&a, r)
			same := reflect.DeepEqual(trim(a), trim(was))
			if bpel.Same(a, was) != same || bpel.Same(was, a) != same || !bpel.Same(was, copied(was)) {
				t.Fatalf("Same of %v and %v: not %v", a, was, same)
			}
		}
	}
	for _, e := range []api.Errno{api.OK, api.ErrLong, api.ErrForm, api.ErrSame} {
		if times[e] < 100 {
			t.Errorf("%v: %d times", e, times[e])
		}
	}
}

// wantItems holds items, size, and what is awaited, against the activities as they lie in one another.
func wantItems(t *testing.T, a bpel.Act) {
	t.Helper()
	l := bpel.Items(a)
	if len(l) != len(entries(&a)) || bpel.Size(a) != len(l) || l[0].Parent != -1 || l[0].At != 0 || !reflect.DeepEqual(l[0].Act, a) {
		t.Fatalf("Items of %v: %v", a, l)
	}
	kids := make([]int, len(l))
	awaited := map[int]bool{}
	for i, x := range l {
		if i > 0 {
			// Kids come in their order, and are what their parent has at that place.
			if x.Parent < 0 || x.Parent >= i || x.At != kids[x.Parent] || !reflect.DeepEqual(x.Act, l[x.Parent].Act.Kids[x.At]) {
				t.Fatalf("Items of %v: %d is %v", a, i, x)
			}
			kids[x.Parent]++
			// What lies between is in an earlier kid.
			if x.At == 0 && x.Parent != i-1 || x.At > 0 && !inside(l, i-1, x.Parent) {
				t.Fatalf("Items of %v: %d is %v", a, i, x)
			}
		}
		if x.Act.Kind == bpel.Receive || x.Act.Kind == bpel.On {
			awaited[x.Act.A] = true
		}
		for _, node := range x.Act.Net.Nodes {
			if x.Act.Kind == bpel.Rules && node.Kind == api.Catch {
				awaited[node.A] = true
			}
		}
	}
	for m := -1; m <= api.Msgs; m++ {
		if bpel.Awaits(a, m) != (awaited[m] && m >= 0 && m < api.Msgs) {
			t.Fatalf("Awaits %d of %v", m, a)
		}
	}
}

// inside tells whether an item lies in another one.
func inside(l []bpel.Item, i, outer int) bool {
	for i > outer {
		i = l[i].Parent
	}
	return i == outer
}

// wantParts: 16.3.
func wantParts(t *testing.T, a bpel.Act) {
	t.Helper()
	for _, x := range bpel.Items(a) {
		want := api.OK
		if x.Act.Kind == bpel.Gate || x.Act.Kind == bpel.On {
			want = api.ErrForm
		}
		if e := bpel.Check(x.Act); e != want {
			t.Fatalf("Check of the part %v of a right program: %v", x.Act, e)
		}
	}
}

// trim makes nil of lists without an element (those of terms are never empty otherwise here).
func trim(a bpel.Act) bpel.Act {
	a = copied(a)
	for _, x := range entries(&a) {
		if len(x.a.Kids) == 0 {
			x.a.Kids = nil
		}
		if len(x.a.Conds) == 0 {
			x.a.Conds = nil
		}
		if len(x.a.Links) == 0 {
			x.a.Links = nil
		}
	}
	return a
}
