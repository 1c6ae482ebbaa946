package web_test

import (
	"fmt"
	"math"
	"math/rand"
	"slices"
	"testing"

	"treenail/api"
	"treenail/block"
	"treenail/fold"
	"treenail/net"
	"treenail/sample"
	"treenail/sound"
	"treenail/token"
	"treenail/web"
)

func process(r *rand.Rand) api.Net {
	return []func(func(int) int) api.Net{sample.Net, sample.Crossed, sample.Knit, sample.Knit}[r.Intn(4)](r.Intn)
}

// anyWeb is a web that can be folded, of the process or another one.
func anyWeb(n api.Net, r *rand.Rand) block.Block {
	if r.Intn(3) == 0 {
		return sample.CrossedWeb(n, r.Intn)
	}
	return sample.Web(n, r.Intn)
}

// anyChoices are none, some, or more than are asked for.
func anyChoices(r *rand.Rand) []int {
	var l []int
	for range r.Intn(12) {
		l = append(l, []int{0, 1, 2, 3, r.Intn(1000), math.MaxInt - r.Intn(3)}[r.Intn(6)])
	}
	return l
}

// kindOf is the kind of a Gate's node; a block is like a Task.
func kindOf(n api.Net, k block.Block) int {
	if k.Kind == block.Gate {
		return n.Nodes[k.Node].Kind
	}
	return api.Task
}

func ends(b block.Block, kid int) (ins, outs []int) {
	for f, l := range b.Links {
		if l.To == kid {
			ins = append(ins, f)
		}
		if l.From == kid {
			outs = append(outs, f)
		}
	}
	return ins, outs
}

// order is the kids' order, by how many ins of a kid are not there yet; shorter, if something goes round.
func order(b block.Block) []int {
	waits := make([]int, len(b.Kids))
	arrive := func(from, by int) {
		for _, l := range b.Links {
			if l.From == from && l.To >= 0 {
				waits[l.To] += by
			}
		}
	}
	for i := range b.Kids {
		arrive(i, 1)
	}
	var l []int
	for {
		next := slices.Index(waits, 0)
		if next < 0 {
			return l
		}
		waits[next] = -1
		l = append(l, next)
		arrive(next, -1)
	}
}

// chosen is the out that each splitting Xor takes.
func chosen(n api.Net, b block.Block, choices []int) map[int]int {
	to := map[int]int{}
	for _, i := range order(b) {
		_, outs := ends(b, i)
		if kindOf(n, b.Kids[i]) != api.Xor || len(outs) == 1 {
			continue
		}
		choice := 0
		if len(to) < len(choices) {
			choice = choices[len(to)]
		}
		to[i] = outs[choice%len(outs)]
	}
	return to
}

// fates are found backwards: of each link and kid by what is ahead of it.
func fates(n api.Net, b block.Block, choices []int) (runs, taken []bool) {
	to := chosen(n, b, choices)
	var lives func(kid int) bool
	isTaken := func(f int) bool {
		from := b.Links[f].From
		out, chooses := to[from]
		return from == -1 || lives(from) && (!chooses || out == f)
	}
	known := map[int]bool{}
	lives = func(kid int) bool {
		is, ok := known[kid]
		if ok {
			return is
		}
		ins, _ := ends(b, kid)
		if kindOf(n, b.Kids[kid]) == api.And {
			is = !slices.ContainsFunc(ins, func(f int) bool { return !isTaken(f) })
		} else {
			is = slices.ContainsFunc(ins, isTaken)
		}
		known[kid] = is
		return is
	}
	for i := range b.Kids {
		runs = append(runs, lives(i))
	}
	for f := range b.Links {
		taken = append(taken, isTaken(f))
	}
	return runs, taken
}

// wanted is the error of a web.
func wanted(n api.Net, b block.Block) api.Errno {
	if _, _, e := fold.Step(n, b); e != api.OK {
		return e
	}
	if slices.ContainsFunc(b.Kids, func(k block.Block) bool { return kindOf(n, k) == api.Event }) {
		return api.ErrForm
	}
	if len(order(b)) < len(b.Kids) {
		return api.ErrState
	}
	return api.OK
}

// hold holds what is told of a web against the test's own reading, and tells the error.
func hold(t *testing.T, n api.Net, b block.Block, choices []int) api.Errno {
	t.Helper()
	was := fmt.Sprint(n, b, choices)
	want := wanted(n, b)
	l, e := web.Order(n, b)
	runs, taken, f := web.Fates(n, b, choices)
	if fmt.Sprint(n, b, choices) != was {
		t.Fatalf("%s was changed", was)
	}
	if want != api.OK {
		if e != want || f != want || l != nil || runs != nil || taken != nil {
			t.Fatalf("%v of %v: %v, %v, %v, %v, %v; want %v", b, n, l, e, runs, taken, f, want)
		}
		return want
	}
	r, k := fates(n, b, choices)
	if e != api.OK || !slices.Equal(l, order(b)) {
		t.Fatalf("Order of %v of %v: %v, %v; want %v", b, n, l, e, order(b))
	}
	if f != api.OK || !slices.Equal(runs, r) || !slices.Equal(taken, k) {
		t.Fatalf("Fates of %v of %v with %v: %v, %v, %v; want %v, %v", b, n, choices, runs, taken, f, r, k)
	}
	return want
}

// 13.1, 13.2: any webs, the process's and others.
func TestAnyWebs(t *testing.T) {
	r := rand.New(rand.NewSource(20))
	errs := map[api.Errno]int{}
	deaths := 0
	for range 8000 {
		n := process(r)
		b, choices := anyWeb(n, r), anyChoices(r)
		e := hold(t, n, b, choices)
		errs[e]++
		if runs, _, _ := web.Fates(n, b, choices); slices.Contains(runs, false) {
			deaths++
		}
	}
	if len(errs) != 3 || errs[api.OK] < 1000 || errs[api.ErrForm] < 1000 || errs[api.ErrState] < 1000 || deaths < 500 {
		t.Errorf("%v, %d with a dead kid", errs, deaths)
	}
}

// 13.1, 13.2: what was spoilt.
func TestAnyErrors(t *testing.T) {
	r := rand.New(rand.NewSource(21))
	errs := map[api.Errno]int{}
	for range 4000 {
		n := process(r)
		b := anyWeb(n, r)
		number := func() int { return []int{math.MinInt, -2, -1, 0, 1, 2, 5, 9, 10, 23, 40, math.MaxInt}[r.Intn(12)] }
		k, l := &b.Kids[r.Intn(len(b.Kids))], &b.Links[r.Intn(len(b.Links))]
		n.Nodes = slices.Clone(n.Nodes)
		*[]*int{&b.Kind, &b.Node, &k.Kind, &k.Node, &l.From, &l.To, &l.Flow, &n.Nodes[r.Intn(len(n.Nodes))].Kind}[r.Intn(8)] = number()
		errs[hold(t, n, b, anyChoices(r))]++
	}
	for _, e := range []api.Errno{api.OK, api.ErrArg, api.ErrForm, api.ErrState} {
		if errs[e] < 100 {
			t.Errorf("%v: %d times", e, errs[e])
		}
	}
}

// step is what a kid with a token on its ins may do: what it takes, and what it puts.
type step struct {
	kid         int
	takes, puts []int
}

// steps are what the kids may do in a marking, by what is chosen.
func steps(n api.Net, b block.Block, to map[int]int, held []int) []step {
	var l []step
	for i, k := range b.Kids {
		ins, outs := ends(b, i)
		if f, ok := to[i]; ok {
			outs = []int{f}
		}
		ways := [][]int{ins}
		if kindOf(n, k) != api.And {
			ways = nil
			for _, f := range ins {
				ways = append(ways, []int{f})
			}
		}
		for _, takes := range ways {
			if !slices.ContainsFunc(takes, func(f int) bool { return held[f] == 0 }) {
				l = append(l, step{i, takes, outs})
			}
		}
	}
	return l
}

// play plays a web with tokens, in any order, and tells which kids did something, and which links held one.
func play(n api.Net, b block.Block, to map[int]int, r *rand.Rand) (did, held []bool) {
	did, held = make([]bool, len(b.Kids)), make([]bool, len(b.Links))
	tokens := make([]int, len(b.Links))
	put := func(f int) {
		tokens[f]++
		held[f] = true
	}
	put(slices.IndexFunc(b.Links, func(l block.Link) bool { return l.From == -1 }))
	for {
		l := steps(n, b, to, tokens)
		if len(l) == 0 {
			return did, held
		}
		x := l[r.Intn(len(l))]
		did[x.kid] = true
		for _, f := range x.takes {
			tokens[f]--
		}
		for _, f := range x.puts {
			put(f)
		}
	}
}

// 13.3: in a sound acyclic web those run that get a token, in whatever order it is played, and the link to -1 is taken.
func TestDeadPaths(t *testing.T) {
	r := rand.New(rand.NewSource(22))
	times, deaths, twigs, linked, mixed := 0, 0, 0, 0, 0
	for range 30000 {
		n := process(r)
		b := anyWeb(n, r)
		if _, e := web.Order(n, b); e != api.OK || !sound.Sound(n, b) {
			continue
		}
		times++
		if left, _ := fold.Fold(n); left.Kind == block.Web {
			linked++
		}
		for range 3 {
			choices := anyChoices(r)
			runs, taken, e := web.Fates(n, b, choices)
			did, held := play(n, b, chosen(n, b, choices), r)
			if e != api.OK || !slices.Equal(runs, did) || !slices.Equal(taken, held) {
				t.Fatalf("%v of %v with %v: %v, %v, %v; but by tokens %v, %v", b, n, choices, runs, taken, e, did, held)
			}
			if !taken[slices.IndexFunc(b.Links, func(l block.Link) bool { return l.To == -1 })] {
				t.Fatalf("%v of %v with %v does not come to its end", b, n, choices)
			}
			if slices.Contains(runs, false) {
				deaths++
				if slices.ContainsFunc(b.Kids, func(k block.Block) bool { return kindOf(n, k) == api.And }) {
					mixed++
				}
			}
			if len(chosen(n, b, choices)) > 1 {
				twigs++
			}
		}
	}
	if times < 1000 || deaths < 1000 || twigs < 500 || linked < 300 || mixed < 100 {
		t.Errorf("%d sound acyclic webs, %d that cannot be folded whole, %d times with a dead kid, %d with an And besides, %d with several choices", times, linked, deaths, mixed, twigs)
	}
}

// 13.3, 7.1: the process's tokens come to those of its nodes that run, and to no others.
func TestTokens(t *testing.T) {
	r := rand.New(rand.NewSource(23))
	times, deaths := 0, 0
	for range 8000 {
		n := sample.Free(process(r))
		b, _ := fold.Begin(n)
		if _, e := web.Order(n, b); e != api.OK || !sound.Sound(n, b) {
			continue
		}
		times++
		choices := anyChoices(r)
		runs, taken, _ := web.Fates(n, b, choices)
		to := map[int]int{}
		for i, f := range chosen(n, b, choices) {
			to[b.Kids[i].Node] = b.Links[f].Flow
		}
		did, held := run(n, to, r)
		for i, k := range b.Kids {
			if runs[i] != did[k.Node] {
				t.Fatalf("%v with %v: %v; but by tokens %v", n, choices, runs, did)
			}
		}
		if !slices.Equal(taken, held) || !did[net.End(n)] {
			t.Fatalf("%v with %v: %v; but by tokens %v, %v", n, choices, taken, held, did)
		}
		if slices.Contains(runs, false) {
			deaths++
		}
	}
	if times < 300 || deaths < 150 {
		t.Errorf("%d processes, %d times with a dead node", times, deaths)
	}
}

// run plays a process of free choices to its end, with every message there, and tells which nodes did something, and which flows held a token.
func run(n api.Net, to map[int]int, r *rand.Rand) (did, held []bool) {
	did, held = make([]bool, len(n.Nodes)), make([]bool, len(n.Flows))
	s, _ := token.Start(n)
	for s.Mode == token.Running {
		for f := range n.Flows {
			held[f] = held[f] || s.Tokens[f] > 0
		}
		// A choice is made by the variable 0, whose value nothing else hangs on: a node is picked first, then its choice is told.
		ready := slices.DeleteFunc(token.Moves(n, s), func(m token.Move) bool { return m.Node < 0 })
		s.Queue = [api.Msgs]int{3, 3, 3, 3}
		if len(ready) == 0 {
			ready = slices.DeleteFunc(token.Moves(n, s), func(m token.Move) bool { return m.Node < 0 })
		}
		node := ready[r.Intn(len(ready))].Node
		s.Vars[0] = to[node]
		s, _, _ = token.Do(n, s, slices.IndexFunc(token.Moves(n, s), func(m token.Move) bool { return m.Node == node }))
		did[node] = true
	}
	return did, held
}
