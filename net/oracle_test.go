package net_test

import (
	"fmt"
	"math"
	"math/rand"
	"reflect"
	"regexp"
	"slices"
	"strings"
	"testing"

	"treenail/api"
	"treenail/net"
	"treenail/sample"
	"treenail/term"
)

// joints are a kind, and of the node's ins and outs a letter each.
var joints = regexp.MustCompile("^(1:>o|2:i>|[348]:i>o|[56]:(i>oo+|ii+>o)|7:i>oo+)$")

// none tells whether it is the zero term.
func none(t api.Term) bool { return reflect.DeepEqual(t, api.Term{}) }

func isA(t api.Term, kind int) bool {
	k, err := term.Check(t)
	return err == api.OK && k == kind
}

// asked is the rule that is broken and its places, read from the document rule by rule, place by place.
func asked(n api.Net) (int, []int) {
	for rule, ask := range []func(api.Net, map[int]bool){nodesAsked, flowsAsked, jointsAsked, waysAsked} {
		broken := map[int]bool{}
		ask(n, broken)
		if len(broken) == 0 {
			continue
		}
		var l []int
		for at := range broken {
			l = append(l, at)
		}
		slices.Sort(l)
		return rule + 1, l
	}
	return 0, nil
}

func nodesAsked(n api.Net, broken map[int]bool) {
	if len(n.Nodes) > 24 || len(n.Flows) > 40 {
		broken[0] = true
		return
	}
	most := map[int]int{1: 0, 2: 0, 3: 3, 4: 3, 5: 0, 6: 0, 7: 0, 8: 4}
	for i, x := range n.Nodes {
		last, known := most[x.Kind]
		if !known || x.A < 0 || x.A > last {
			broken[i] = true
		}
		if x.Kind == 4 && !isA(x.Term, term.Number) || x.Kind != 4 && !none(x.Term) {
			broken[i] = true
		}
	}
}

func flowsAsked(n api.Net, broken map[int]bool) {
	for i, f := range n.Flows {
		if f.From < 0 || f.From >= len(n.Nodes) || f.To < 0 || f.To >= len(n.Nodes) || f.From == f.To {
			broken[i] = true
			continue
		}
		outs := 0
		for _, g := range n.Flows {
			if g.From == f.From {
				outs++
			}
		}
		splits := n.Nodes[f.From].Kind == api.Xor && outs >= 2
		right := !f.Else && none(f.Cond)
		if splits {
			right = f.Else && none(f.Cond) || !f.Else && isA(f.Cond, term.Truth)
		}
		if !right {
			broken[i] = true
		}
	}
}

func jointsAsked(n api.Net, broken map[int]bool) {
	seen := map[int]int{}
	for i, x := range n.Nodes {
		seen[x.Kind]++
		ins, outs, elses, others := 0, 0, 0, 0
		for _, f := range n.Flows {
			if f.To == i {
				ins++
			}
			if f.From != i {
				continue
			}
			outs++
			if f.Else {
				elses++
			}
			if n.Nodes[f.To].Kind != api.Catch {
				others++
			}
		}
		signature := fmt.Sprintf("%d:%s>%s", x.Kind, strings.Repeat("i", ins), strings.Repeat("o", outs))
		switch {
		case !joints.MatchString(signature), x.Kind == api.Xor && outs > 1 && elses != 1, x.Kind == api.Event && others > 0,
			x.Kind <= api.End && seen[x.Kind] > 1:
			broken[i] = true
		}
	}
	if seen[api.Start] == 0 || seen[api.End] == 0 {
		broken[len(n.Nodes)] = true
	}
}

func waysAsked(n api.Net, broken map[int]bool) {
	leads := map[[2]int]bool{}
	start, end := 0, 0
	for i, x := range n.Nodes {
		leads[[2]int{i, i}] = true
		if x.Kind == api.Start {
			start = i
		}
		if x.Kind == api.End {
			end = i
		}
	}
	for _, f := range n.Flows {
		leads[[2]int{f.From, f.To}] = true
	}
	for k := range n.Nodes {
		for i := range n.Nodes {
			for j := range n.Nodes {
				if leads[[2]int{i, k}] && leads[[2]int{k, j}] {
					leads[[2]int{i, j}] = true
				}
			}
		}
	}
	for i := range n.Nodes {
		if !leads[[2]int{start, i}] || !leads[[2]int{i, end}] {
			broken[i] = true
		}
	}
}

// bend changes one thing of a process, if there is such a thing.
func bend(n *api.Net, r *rand.Rand) {
	numbers := []int{-1, 0, 1, 2, 3, 4, 5, 6, 7, 8, 9, math.MinInt, math.MaxInt, len(n.Nodes), len(n.Nodes) - 1}
	number := numbers[r.Intn(len(numbers))]
	terms := []api.Term{{}, sample.Number(r.Intn, 3), sample.Truth(r.Intn, 3), {N: 1}, {Op: 99}, {Kids: make([]api.Term, 1)}}
	any := terms[r.Intn(len(terms))]
	if len(n.Nodes) == 0 || len(n.Flows) == 0 {
		return
	}
	x, f, g := &n.Nodes[r.Intn(len(n.Nodes))], &n.Flows[r.Intn(len(n.Flows))], &n.Flows[r.Intn(len(n.Flows))]
	switch r.Intn(12) {
	case 0:
		x.Kind = number
	case 1:
		x.A = number
	case 2:
		x.Term = any
	case 3:
		f.From = number
	case 4:
		f.To = number
	case 5:
		f.Else = !f.Else
	case 6:
		f.Cond = any
	case 7:
		f.From, g.From = g.From, f.From
	case 8:
		f.To, g.To = g.To, f.To
	case 9:
		*f = n.Flows[len(n.Flows)-1]
		n.Flows = n.Flows[:len(n.Flows)-1]
	case 10:
		n.Flows = append(n.Flows, *f)
	case 11:
		n.Nodes = append(n.Nodes, *x)
	}
}

func wantAsked(t *testing.T, n api.Net) int {
	t.Helper()
	rule, places := asked(n)
	var want []net.Broken
	for _, at := range places {
		want = append(want, net.Broken{Rule: rule, At: at})
	}
	if l := net.All(n); !reflect.DeepEqual(l, want) {
		t.Fatalf("All(%v): %v; want %v", n, l, want)
	}
	first := 0
	if rule > 0 {
		first = places[0]
	}
	if got, at := net.Check(n); got != rule || at != first {
		t.Fatalf("Check(%v): %d, %d; want %d, %d", n, got, at, rule, first)
	}
	return rule
}

// 5.1: right processes, and such of which one thing or more is bent.
func TestBent(t *testing.T) {
	r := rand.New(rand.NewSource(5))
	var seen [5]int
	for range 12000 {
		n := sample.Net(r.Intn)
		if rule := wantAsked(t, n); rule != 0 {
			t.Fatalf("%v is not right", n)
		}
		for range 1 + r.Intn(3) {
			bend(&n, r)
		}
		seen[wantAsked(t, n)]++
	}
	for rule, times := range seen {
		if times < 100 {
			t.Errorf("rule %d was broken %d times only", rule, times)
		}
	}
}

// 5.1: all processes of few nodes and flows, without terms.
func TestSmall(t *testing.T) {
	var seen [5]int
	for kinds := range 9 * 9 * 9 {
		n := api.Net{Nodes: []api.Node{{Kind: kinds % 9}, {Kind: kinds / 9 % 9}, {Kind: kinds / 81}}}
		for flows := range 12 * 12 {
			n.Flows = nil
			for f := flows; f > 0; f /= 12 {
				n.Flows = append(n.Flows, api.Flow{From: f % 12 % 3, To: f % 12 / 3})
			}
			seen[wantAsked(t, n)]++
		}
	}
	if seen[0] == 0 || seen[1] == 0 || seen[2] == 0 || seen[3] == 0 {
		t.Errorf("rules broken: %v times", seen)
	}
}

// 5.3: ins and outs are as many as the kind asks; each flow is one node's out, and one's in.
func TestJoints(t *testing.T) {
	r := rand.New(rand.NewSource(6))
	for range 2000 {
		n := sample.Net(r.Intn)
		if rule, _ := net.Check(n); rule != 0 {
			t.Fatalf("%v breaks rule %d", n, rule)
		}
		ins, outs := make([]int, len(n.Flows)), make([]int, len(n.Flows))
		for i, x := range n.Nodes {
			to, from := net.Ins(n, i), net.Outs(n, i)
			signature := fmt.Sprintf("%d:%s>%s", x.Kind, strings.Repeat("i", len(to)), strings.Repeat("o", len(from)))
			if !joints.MatchString(signature) || !slices.IsSorted(to) || !slices.IsSorted(from) {
				t.Fatalf("%v: ins %v and outs %v of %d", n, to, from, i)
			}
			for _, f := range to {
				ins[f]++
			}
			for _, f := range from {
				outs[f]++
			}
		}
		once := slices.Repeat([]int{1}, len(n.Flows))
		if !slices.Equal(ins, once) || !slices.Equal(outs, once) {
			t.Fatalf("%v: flows lead to nodes %v times, from nodes %v times", n, ins, outs)
		}
	}
}
