package rule_test

import (
	"math"
	"math/rand"
	"reflect"
	"slices"
	"testing"

	"treenail/api"
	"treenail/net"
	"treenail/rule"
	"treenail/sample"
	"treenail/token"
)

func process(r *rand.Rand) api.Net {
	return []func(func(int) int) api.Net{sample.Net, sample.Crossed, sample.Knit}[r.Intn(3)](r.Intn)
}

// state is any state of a process, with most flows empty or not.
func state(n api.Net, r *rand.Rand) token.State {
	var s token.State
	few := 1 + r.Intn(6)
	for f := range n.Flows {
		if r.Intn(few) == 0 {
			s.Tokens[f] = r.Intn(api.MaxHold + 1)
		}
	}
	for i := range s.Vars {
		s.Vars[i] = r.Intn(4)
	}
	for i := range s.Queue {
		s.Queue[i] = r.Intn(api.MaxHold + 1)
	}
	return s
}

// leads are the tokens to which the moves of a node lead, and whether it faults.
func leads(n api.Net, s token.State, node int) (l []tokens, faults bool) {
	for i, m := range token.Moves(n, s) {
		if m.Node != node {
			continue
		}
		to, label, _ := token.Do(n, s, i)
		if label.Kind == api.Faulted {
			faults = true
		} else {
			l = append(l, to.Tokens)
		}
	}
	return l, faults
}

// 14.3: what the token game does by a node is what one of its rules does; a Free rule with room is done by some move.
func TestTokenGame(t *testing.T) {
	r := rand.New(rand.NewSource(24))
	moves, done, faults := 0, 0, 0
	for range 9000 {
		n := process(r)
		all, e := rule.All(n)
		if e != api.OK {
			t.Fatalf("%v: %v", n, e)
		}
		s := state(n, r)
		for i := range n.Nodes {
			to, fault := leads(n, s, i)
			mine := slices.DeleteFunc(slices.Clone(all), func(x rule.Rule) bool { return x.Node != i })
			for _, x := range to {
				moves++
				if !slices.ContainsFunc(mine, func(y rule.Rule) bool { got, e := rule.Do(y, s.Tokens); return e == api.OK && got == x }) {
					t.Fatalf("%v at %v: the node %d leads to %v, by none of %v", n, s, i, x, mine)
				}
			}
			for _, x := range mine {
				got, e := rule.Do(x, s.Tokens)
				if e != api.OK || x.Kind != rule.Free {
					continue
				}
				if fault && n.Nodes[i].Kind == api.Assign {
					faults++
					continue
				}
				done++
				if !slices.Contains(to, got) {
					t.Fatalf("%v at %v: no move does %v", n, s, x)
				}
			}
		}
	}
	if moves < 10000 || done < 10000 || faults < 200 {
		t.Errorf("%d moves, %d rules done, %d faults", moves, done, faults)
	}
}

// 14.3: where all choices are free and all messages are there, every rule that can be done with room is done by some move, and only that.
func TestFreeGame(t *testing.T) {
	r := rand.New(rand.NewSource(25))
	var times [4]int
	for range 3000 {
		n := sample.Free(process(r))
		all, _ := rule.All(n)
		s := state(n, r)
		s.Queue = [api.Msgs]int{1, 1, 1, 1}
		var can []rule.Rule
		for _, x := range all {
			got, e := rule.Do(x, s.Tokens)
			if e == api.OK {
				can = append(can, x)
			}
			if rule.Can(x, s.Tokens) != (e == api.OK || e == api.ErrFull) {
				t.Fatalf("Can(%v, %v): %v", x, s.Tokens, e)
			}
			if x.Kind == rule.Cond {
				s.Vars[0] = x.Gives[0]
			}
			if to, _ := leads(n, s, x.Node); slices.Contains(to, got) != (e == api.OK) {
				t.Fatalf("%v at %v: %v by %v, %v; but by tokens %v", n, s, got, x, e, to)
			}
			if e == api.OK {
				times[x.Kind]++
			}
		}
		for _, m := range token.Moves(n, s) {
			if m.Node >= 0 && !slices.ContainsFunc(can, func(x rule.Rule) bool { return x.Node == m.Node }) {
				t.Fatalf("%v at %v: %v, but no rule can be done", n, s, m)
			}
		}
	}
	if min(times[rule.Free], times[rule.Cond], times[rule.Wait]) < 500 {
		t.Errorf("%v", times)
	}
}

// count is how many rules each kind of nodes has.
func count(n api.Net, i int) (int, int) {
	ins, outs := len(net.Ins(n, i)), len(net.Outs(n, i))
	switch n.Nodes[i].Kind {
	case api.Start:
		return 0, 0
	case api.Event:
		return outs, rule.Wait
	case api.Catch:
		return 1, rule.Wait
	case api.Xor:
		if outs > 1 {
			return outs, rule.Cond
		}
		return ins, rule.Free
	}
	return 1, rule.Free
}

// before tells whether the rule a of one node comes ahead of b by the flow by which they differ; of an Event that is its own out.
func before(n api.Net, a, b rule.Rule) bool {
	if n.Nodes[a.Node].Kind == api.Event {
		return net.Ins(n, n.Flows[a.Gives[0]].From)[0] < net.Ins(n, n.Flows[b.Gives[0]].From)[0]
	}
	return slices.Compare(slices.Concat(a.Needs, a.Gives), slices.Concat(b.Needs, b.Gives)) < 0
}

// 14.1: rules are node by node, so many of each as are asked for, in their order, their flows rising; what a node needs and gives is its own.
func TestAnyRules(t *testing.T) {
	r := rand.New(rand.NewSource(26))
	for range 4000 {
		n := process(r)
		was := net.Copy(n)
		all, e := rule.All(n)
		if e != api.OK || !reflect.DeepEqual(n, was) {
			t.Fatalf("%v: %v, or it was changed", was, e)
		}
		at := 0
		for i, x := range n.Nodes {
			many, kind := count(n, i)
			for k := range many {
				y := all[at]
				if y.Node != i || y.Kind != kind || !slices.IsSorted(y.Needs) || !slices.IsSorted(y.Gives) || k > 0 && !before(n, all[at-1], y) {
					t.Fatalf("%v: the rule %d of %v is %v", n, k, x, all)
				}
				for _, f := range y.Needs {
					if n.Flows[f].To != i {
						t.Fatalf("%v: %v needs %d", n, y, f)
					}
				}
				for _, f := range y.Gives {
					if from := n.Flows[f].From; from != i && (x.Kind != api.Event || n.Flows[net.Ins(n, from)[0]].From != i) {
						t.Fatalf("%v: %v gives %d", n, y, f)
					}
				}
				at++
			}
		}
		if at != len(all) {
			t.Fatalf("%v: %d rules; want %d", n, len(all), at)
		}
	}
}

// 14.1: processes that were spoilt.
func TestAnyErrors(t *testing.T) {
	r := rand.New(rand.NewSource(27))
	wrong := 0
	for range 3000 {
		n := process(r)
		n.Nodes, n.Flows = slices.Clone(n.Nodes), slices.Clone(n.Flows)
		x, f := &n.Nodes[r.Intn(len(n.Nodes))], &n.Flows[r.Intn(len(n.Flows))]
		*[]*int{&x.Kind, &x.A, &f.From, &f.To}[r.Intn(4)] = []int{math.MinInt, -1, 0, 1, 5, 23, 24, 25, math.MaxInt}[r.Intn(9)]
		broken, _ := net.Check(n)
		l, e := rule.All(n)
		if (broken != 0) != (e == api.ErrForm) || broken != 0 && l != nil || broken == 0 && e != api.OK {
			t.Fatalf("%v: %v, %v", n, l, e)
		}
		if broken != 0 {
			wrong++
		}
	}
	if wrong < 1000 {
		t.Errorf("%d wrong processes", wrong)
	}
}

// R3: no two lists of the rules share anything, spare room too: all that is written into one is read from no other.
func TestMemory(t *testing.T) {
	r := rand.New(rand.NewSource(28))
	for range 500 {
		n := process(r)
		all, _ := rule.All(n)
		var lists [][]int
		for _, x := range all {
			lists = append(lists, x.Needs[:cap(x.Needs)], x.Gives[:cap(x.Gives)])
		}
		for i, l := range lists {
			for k := range l {
				l[k] = i
			}
		}
		for i, l := range lists {
			if slices.ContainsFunc(l, func(x int) bool { return x != i }) {
				t.Fatalf("%v: the list %d shares something", n, i)
			}
		}
		again, _ := rule.All(n)
		if other, _ := rule.All(n); !reflect.DeepEqual(again, other) {
			t.Fatalf("%v: %v, then %v", n, again, other)
		}
	}
}
