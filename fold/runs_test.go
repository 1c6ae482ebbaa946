package fold_test

import (
	"math/rand"
	"slices"
	"testing"

	"treenail/api"
	"treenail/block"
	"treenail/fold"
	"treenail/net"
	"treenail/sample"
	"treenail/token"
)

// act is what a run does: a node is done (flow -1), or a flow is chosen at it.
type act struct{ node, flow int }

// run is a way through a block of a process, with whatever is chosen.
func run(n api.Net, b block.Block, r *rand.Rand) []act {
	var l []act
	choose := func(out int) { l = append(l, act{b.Node, net.Outs(n, b.Node)[out]}) }
	through := func(kid int) { l = append(l, run(n, b.Kids[kid], r)...) }
	switch b.Kind {
	case block.Leaf:
		l = []act{{b.Node, -1}}
	case block.Seq:
		for i := range b.Kids {
			through(i)
		}
	case block.Par:
		for _, k := range b.Kids {
			l = merged(l, run(n, k, r), r)
		}
	case block.Alt, block.Pick:
		i := r.Intn(len(b.Kids))
		choose(i)
		through(i)
	case block.Loop:
		through(0)
		for r.Intn(3) == 0 {
			choose(1 - b.Arg)
			through(1)
			through(0)
		}
		choose(b.Arg)
	}
	return l
}

// merged is both lists at the same time.
func merged(a, b []act, r *rand.Rand) []act {
	var l []act
	for len(a)+len(b) > 0 {
		if r.Intn(len(a)+len(b)) < len(a) {
			l, a = append(l, a[0]), a[1:]
		} else {
			l, b = append(l, b[0]), b[1:]
		}
	}
	return l
}

// goOn does a move that is asked for, if there is one.
func goOn(n api.Net, s token.State, asked func(m token.Move) bool) (token.State, api.Label, bool) {
	i := slices.IndexFunc(token.Moves(n, s), asked)
	if i < 0 {
		return s, api.Label{}, false
	}
	to, label, _ := token.Do(n, s, i)
	return to, label, true
}

// settle does all that happens by itself: what Ands and joining Xors do.
func settle(n api.Net, s token.State) token.State {
	for ok := true; ok; {
		s, _, ok = goOn(n, s, func(m token.Move) bool {
			return m.Node >= 0 && (n.Nodes[m.Node].Kind == api.And || n.Nodes[m.Node].Kind == api.Xor && len(net.Outs(n, m.Node)) == 1)
		})
	}
	return s
}

// 11.1: processes of blocks in one another are folded whole, and what is left runs as the process does: whatever is chosen on a way through
// the block, the process's tokens (7.1) can go it, to the end.
func TestRuns(t *testing.T) {
	r := rand.New(rand.NewSource(15))
	var kinds [block.Rules + 1]int
	for range 3000 {
		n := sample.Free(sample.Net(r.Intn))
		b, e := fold.Fold(n)
		if e != api.OK || b.Kind == block.Web {
			t.Fatalf("%v: %v, %v", n, b, e)
		}
		kinds[b.Kind]++
		s, _ := token.Start(n)
		for _, a := range run(n, b, r) {
			s = settle(n, s)
			s.Vars[0], s.Queue = a.flow, [api.Msgs]int{1, 1, 1, 1}
			var ok bool
			s, _, ok = goOn(n, s, func(m token.Move) bool { return m.Node == a.node && (a.flow < 0 || m.Arg == a.flow) })
			if !ok {
				t.Fatalf("%v, folded to %v: %v at %v cannot be done", n, b, a, s)
			}
		}
		if _, label, ok := goOn(n, settle(n, s), func(m token.Move) bool { return m.Node == net.End(n) }); !ok || label.Kind != api.Finished {
			t.Fatalf("%v, folded to %v: it does not end at %v", n, b, s)
		}
	}
	for _, kind := range []int{block.Leaf, block.Seq, block.Par, block.Alt, block.Pick, block.Loop} {
		if kinds[kind] < 30 {
			t.Errorf("kind %d: %d times", kind, kinds[kind])
		}
	}
}
