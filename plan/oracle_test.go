package plan_test

import (
	"math/rand"
	"reflect"
	"slices"
	"testing"

	"treenail/api"
	"treenail/block"
	"treenail/fold"
	"treenail/net"
	"treenail/plan"
	"treenail/sample"
	"treenail/sound"
)

// eventLeft tells whether an Event is a gate of a web.
func eventLeft(n api.Net, b block.Block) bool {
	return slices.ContainsFunc(b.Kids, func(k block.Block) bool { return k.Kind == block.Gate && n.Nodes[k.Node].Kind == api.Event })
}

// turns tells whether links go round: kids to which nothing leads are let go, again and again.
func turns(b block.Block) bool {
	gone := make([]bool, len(b.Kids))
	for range b.Kids {
		led := make([]bool, len(b.Kids))
		for _, l := range b.Links {
			if l.From >= 0 && l.To >= 0 && !gone[l.From] {
				led[l.To] = true
			}
		}
		for i := range led {
			gone[i] = !led[i]
		}
	}
	return slices.Contains(gone, false)
}

// soundAtFirst tells whether the web with which a process begins is sound: folding changes nothing in that (12.2). Known, if that could be told.
func soundAtFirst(n api.Net) (is, known bool) {
	web, _ := fold.Begin(n)
	wrong, _, e := sound.Play(n, web)
	return wrong == 0, e == api.OK
}

// wantReasons holds a plan, and why it is, against what is left.
func wantReasons(t *testing.T, n api.Net) int {
	t.Helper()
	b, kind, e := plan.Of(n)
	left, _ := fold.Fold(n)
	r := reasons(n)
	wanted := why{whole: left.Kind != block.Web}
	if !wanted.whole {
		wanted.acyclic = !eventLeft(n, left) && !turns(left)
	}
	is, known := soundAtFirst(n)
	if !known {
		is = r.sound
	}
	wanted.sound = wanted.acyclic && is
	if r != wanted || e != api.OK {
		t.Fatalf("Why of %v: %v, %v; want %v", n, r, e, wanted)
	}
	was, like := plan.Ruled, block.Block{Kind: block.Rules}
	switch {
	case wanted.whole:
		was, like = plan.Whole, left
	case wanted.sound:
		was, like = plan.Linked, left
	}
	if kind != was || !reflect.DeepEqual(b, like) {
		t.Fatalf("Of %v: %v, %d; want %v, %d", n, b, kind, like, was)
	}
	// 15.3
	if e := block.Check(n, b); e != api.OK {
		t.Fatalf("the plan %v of %v is no block: %v", b, n, e)
	}
	return kind
}

// 15.1, 15.2, 15.3: any processes.
func TestAnyProcesses(t *testing.T) {
	r := rand.New(rand.NewSource(15))
	var kinds [3][4]int
	for range 4000 {
		for i, process := range []func(func(int) int) api.Net{sample.Net, sample.Crossed, sample.Knit} {
			kinds[i][wantReasons(t, process(r.Intn))]++
		}
	}
	// Of blocks in one another each is folded whole.
	if kinds[0][plan.Linked] > 0 || kinds[0][plan.Ruled] > 0 {
		t.Errorf("blocks in one another: %v", kinds[0])
	}
	for i := 1; i < 3; i++ {
		for _, kind := range []int{plan.Whole, plan.Linked, plan.Ruled} {
			if kinds[i][kind] < 5 {
				t.Errorf("%d: plan %d: %d times", i, kind, kinds[i][kind])
			}
		}
	}
}

// 15.3: without Ands and Events, and if nothing goes round, it is Whole or Linked.
func TestChoicesAlone(t *testing.T) {
	r := rand.New(rand.NewSource(16))
	var kinds [4]int
	for range 2000 {
		n := sample.Knit(r.Intn)
		for i, x := range n.Nodes {
			if x.Kind == api.And {
				n.Nodes[i].Kind = api.Xor
			}
		}
		n = sample.Choices(n, r.Intn)
		if rule, at := net.Check(n); rule != 0 {
			t.Fatalf("%v breaks rule %d at %d", n, rule, at)
		}
		kinds[wantReasons(t, n)]++
	}
	if kinds[plan.Ruled] > 0 || kinds[plan.Whole] < 100 || kinds[plan.Linked] < 100 {
		t.Errorf("%v", kinds)
	}
}
