package equal_test

import (
	"cmp"
	"maps"
	"math/rand"
	"slices"
	"testing"

	"treenail/api"
	"treenail/bpel"
	"treenail/chain"
	"treenail/equal"
	"treenail/life"
	"treenail/net"
	"treenail/plan"
	"treenail/sample"
	"treenail/token"
)

// states is a set of states: a cloud, without an order.
type states[S comparable] map[S]struct{}

// step is a label and the state behind it.
type step[S comparable] struct {
	label api.Label
	to    S
}

// side is a process, or a program, by the steps from each of its states.
type side[S comparable] struct {
	start S
	known map[S][]step[S]
	find  func(S) []step[S]
}

// steps finds the steps of a state, once.
func (d side[S]) steps(s S) []step[S] {
	l, ok := d.known[s]
	if !ok {
		l = d.find(s)
		d.known[s] = l
	}
	return l
}

func ofProcess(n api.Net) side[token.State] {
	start, _ := token.Start(n)
	return side[token.State]{start, map[token.State][]step[token.State]{}, func(s token.State) []step[token.State] {
		var l []step[token.State]
		for i := range token.Moves(n, s) {
			to, x, _ := token.Do(n, s, i)
			l = append(l, step[token.State]{x, to})
		}
		return l
	}}
}

func ofProgram(a bpel.Act) side[life.State] {
	start, _ := life.Start(a)
	return side[life.State]{start, map[life.State][]step[life.State]{}, func(s life.State) []step[life.State] {
		var l []step[life.State]
		for i := range life.Moves(a, s) {
			to, x, _ := life.Do(a, s, i)
			l = append(l, step[life.State]{x, to})
		}
		return l
	}}
}

// add puts a state into a cloud, with all to which it comes silently.
func (d side[S]) add(c states[S], s S) {
	if _, ok := c[s]; ok || len(c) > 1500 {
		return
	}
	c[s] = struct{}{}
	for _, x := range d.steps(s) {
		if x.label == (api.Label{}) {
			d.add(c, x.to)
		}
	}
}

func (d side[S]) begin() states[S] {
	c := states[S]{}
	d.add(c, d.start)
	return c
}

func (d side[S]) after(c states[S], x api.Label) states[S] {
	next := states[S]{}
	for s := range c {
		for _, y := range d.steps(s) {
			if y.label == x {
				d.add(next, y.to)
			}
		}
	}
	return next
}

func (d side[S]) labels(c states[S]) []api.Label {
	all := map[api.Label]int{}
	for s := range c {
		for _, x := range d.steps(s) {
			all[x.label]++
		}
	}
	delete(all, api.Label{})
	return slices.SortedFunc(maps.Keys(all), compareLabels)
}

func compareLabels(a, b api.Label) int {
	return slices.Compare([]int{a.Kind, a.Node, a.Arg}, []int{b.Kind, b.Node, b.Arg})
}

// both is a process and a program, and what was found of them: all ways that were gone, and whether something was too much. effort is how many states may be looked at.
type both struct {
	process side[token.State]
	program side[life.State]
	ways    []route
	full    bool
	effort  int
}

// route is a way, and whether both are the same at its end.
type route struct {
	labels []api.Label
	same   bool
}

// see looks at both behind a way: the labels of the process, and whether the program has the same.
func (b *both) see(p states[token.State], q states[life.State]) ([]api.Label, bool) {
	b.full = b.full || len(p) > 1500 || len(q) > 1500
	b.effort -= len(p) + len(q)
	l := b.process.labels(p)
	return l, slices.Equal(l, b.program.labels(q))
}

// spread goes all ways on from one, of so many labels more.
func (b *both) spread(way []api.Label, p states[token.State], q states[life.State], more int) {
	labels, same := b.see(p, q)
	b.ways = append(b.ways, route{way, same})
	b.full = b.full || len(b.ways) > 2000
	if !same || more == 0 {
		return
	}
	for _, x := range labels {
		if b.full || b.effort < 0 {
			return
		}
		b.spread(append(slices.Clone(way), x), b.process.after(p, x), b.program.after(q, x), more-1)
	}
}

// walk goes by picks.
func (b *both) walk(picks []int) route {
	p, q := b.process.begin(), b.program.begin()
	var r route
	for i := 0; ; i++ {
		labels, same := b.see(p, q)
		r.same = same
		if i == len(picks) || len(labels) == 0 || !same || b.full {
			return r
		}
		x := labels[picks[i]%len(labels)]
		r.labels = append(r.labels, x)
		p, q = b.process.after(p, x), b.program.after(q, x)
	}
}

// process is any right process.
func process(r *rand.Rand) api.Net {
	kinds := []func(func(int) int) api.Net{sample.Net, sample.Woven, sample.Crossed, sample.Knit}
	n := kinds[r.Intn(len(kinds))](r.Intn)
	if r.Intn(3) == 0 {
		return sample.Free(n)
	}
	return n
}

// parts are all activities of a program.
func parts(a *bpel.Act) []*bpel.Act {
	l := []*bpel.Act{a}
	for i := range a.Kids {
		l = append(l, parts(&a.Kids[i])...)
	}
	return l
}

// bend changes something in a program, which may be no program any more.
func bend(r *rand.Rand, a *bpel.Act) {
	l := parts(a)
	x, y := l[r.Intn(len(l))], l[r.Intn(len(l))]
	swap := func(count int, swap func(i, j int)) {
		if count > 1 {
			swap(r.Intn(count), r.Intn(count))
		}
	}
	switch r.Intn(9) {
	case 0:
		x.A = r.Intn(api.Msgs + 1)
	case 1:
		x.B = r.Intn(2)
	case 2:
		swap(len(x.Kids), func(i, j int) { x.Kids[i], x.Kids[j] = x.Kids[j], x.Kids[i] })
	case 3:
		swap(len(x.Conds), func(i, j int) { x.Conds[i], x.Conds[j] = x.Conds[j], x.Conds[i] })
	case 4:
		swap(len(x.Net.Flows), func(i, j int) { x.Net.Flows[i].Cond, x.Net.Flows[j].Cond = x.Net.Flows[j].Cond, x.Net.Flows[i].Cond })
	case 5:
		swap(len(x.Net.Nodes), func(i, j int) { x.Net.Nodes[i].A, x.Net.Nodes[j].A = x.Net.Nodes[j].A, x.Net.Nodes[i].A })
	case 6:
		if x.Kind == y.Kind {
			x.Node, y.Node = y.Node, x.Node
		}
	default:
		// What comes late lies far behind.
		l[len(l)/2+r.Intn((len(l)+1)/2)].Node = r.Intn(api.MaxNodes)
	}
}

// altered is a process's program, changed a little, or that of another process: of the same flows, with something else at one of the nodes.
func altered(r *rand.Rand, n api.Net) bpel.Act {
	for {
		if r.Intn(2) == 0 {
			m := net.Copy(n)
			m.Nodes[r.Intn(len(m.Nodes))] = []api.Node{{Kind: api.Task}, {Kind: api.Catch, A: api.Msgs}, {Kind: api.Assign, Term: sample.Number(r.Intn, 1)}}[r.Intn(3)]
			if a, l := chain.Program(m); len(l) == 0 {
				return a
			}
			continue
		}
		a, _ := chain.Program(n)
		for range 1 + r.Intn(6) {
			bend(r, &a)
		}
		if bpel.Check(a) == api.OK {
			return a
		}
	}
}

// 27.2, 27.3: all ways of any processes and programs, held against the chapter's words.
func TestWays(t *testing.T) {
	r := rand.New(rand.NewSource(27))
	came := map[string]int{}
	for range 700 {
		n := process(r)
		a, depth := altered(r, n), r.Intn(13)
		b := both{process: ofProcess(n), program: ofProgram(a), effort: 20000}
		b.spread(nil, b.process.begin(), b.program.begin(), depth)
		if b.effort < 0 {
			continue
		}
		many, same, err := equal.All(n, a, depth)
		first, never, errFirst := equal.First(n, a, depth)
		if b.full {
			came["full"]++
			if many != 0 || same || err != api.ErrFull || len(first) != 0 || never || errFirst != api.ErrFull {
				t.Fatalf("%v, %v, %d: %d, %v, %v; %v, %v, %v; want ErrFull", n, a, depth, many, same, err, first, never, errFirst)
			}
			continue
		}
		slices.SortFunc(b.ways, func(v, w route) int {
			return cmp.Or(cmp.Compare(len(v.labels), len(w.labels)), slices.CompareFunc(v.labels, w.labels, compareLabels))
		})
		at := slices.IndexFunc(b.ways, func(w route) bool { return !w.same })
		if many != len(b.ways) || same != (at < 0) || err != api.OK {
			t.Fatalf("%v, %v: All %d: %d, %v, %v; want %d, %v", n, a, depth, many, same, err, len(b.ways), at < 0)
		}
		var want []api.Label
		if at >= 0 {
			want = b.ways[at].labels
		}
		if !slices.Equal(first, want) || never != (at < 0) || errFirst != api.OK {
			t.Fatalf("%v, %v: First %d: %v, %v, %v; want %v, %v", n, a, depth, first, never, errFirst, want, at < 0)
		}
		switch {
		case at < 0:
			came["same"]++
		case len(want) == 0:
			came["other at once"]++
		case len(want) < 3:
			came["other soon"]++
		default:
			came["other late"]++
		}
	}
	for _, x := range []string{"same", "other at once", "other soon", "other late", "full"} {
		if came[x] < 8 {
			t.Errorf("%s: %d times", x, came[x])
		}
	}
}

// 27.1: any walks, held against the chapter's words.
func TestWalks(t *testing.T) {
	r := rand.New(rand.NewSource(28))
	came := map[string]int{}
	for range 600 {
		n := process(r)
		a := altered(r, n)
		var picks []int
		for range r.Intn(30) {
			picks = append(picks, r.Intn(40))
		}
		b := both{process: ofProcess(n), program: ofProgram(a)}
		want := b.walk(picks)
		l, same, err := equal.Walk(n, a, picks)
		if b.full {
			came["full"]++
			if len(l) != 0 || same || err != api.ErrFull {
				t.Fatalf("%v, %v: Walk %v: %v, %v, %v; want ErrFull", n, a, picks, l, same, err)
			}
			continue
		}
		if !slices.Equal(l, want.labels) || same != want.same || err != api.OK {
			t.Fatalf("%v, %v: Walk %v: %v, %v, %v; want %v", n, a, picks, l, same, err, want)
		}
		switch {
		case same && len(l) < len(picks):
			came["to the end"]++
		case same:
			came["same"]++
		case len(l) > 2:
			came["other late"]++
		default:
			came["other"]++
		}
	}
	for _, x := range []string{"same", "to the end", "other", "other late"} {
		if came[x] < 10 {
			t.Errorf("%s: %d times", x, came[x])
		}
	}
}

// 27.4, P1: a process and its own program do not differ.
func TestOwn(t *testing.T) {
	r := rand.New(rand.NewSource(29))
	plans := map[int]int{}
	for range 130 {
		n := process(r)
		a := compiled(t, n)
		_, kind, _ := plan.Of(n)
		for _, depth := range []int{1, 2, 3, 4 + r.Intn(3), 8 + r.Intn(5)} {
			many, same, err := equal.All(n, a, depth)
			if err == api.ErrFull {
				break
			}
			if many == 0 || !same || err != api.OK {
				t.Fatalf("%v: All %d: %d, %v, %v", n, depth, many, same, err)
			}
			plans[kind]++
		}
		var picks []int
		for range 40 {
			picks = append(picks, r.Intn(40))
		}
		if l, same, err := equal.Walk(n, a, picks); err != api.ErrFull && (!same || err != api.OK) {
			t.Fatalf("%v: Walk %v: %v, %v, %v", n, picks, l, same, err)
		}
	}
	for kind := plan.Whole; kind <= plan.Ruled; kind++ {
		if plans[kind] < 100 {
			t.Errorf("plan %d: %d times", kind, plans[kind])
		}
	}
}
