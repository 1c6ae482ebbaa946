package plan_test

import (
	"reflect"
	"strconv"
	"strings"
	"testing"

	"treenail/api"
	"treenail/block"
	"treenail/plan"
	"treenail/sample"
)

// why is whether it is whole, acyclic, sound.
type why struct{ whole, acyclic, sound bool }

func reasons(n api.Net) why {
	whole, acyclic, sound := plan.Why(n)
	return why{whole, acyclic, sound}
}

func wantPlan(t *testing.T, what string, n api.Net, text string, kind int, reason why) {
	t.Helper()
	b, k, e := plan.Of(n)
	if s, f := block.Text(b); s != text || k != kind || e != api.OK || f != api.OK {
		t.Errorf("Of %s: %s, %d, %v; want %s, %d", what, s, k, e, text, kind)
	}
	if got := reasons(n); got != reason {
		t.Errorf("Why of %s: %v; want %v", what, got, reason)
	}
}

// 15.1: the constants' numbers.
func TestNumbers(t *testing.T) {
	if plan.Whole != 1 || plan.Linked != 2 || plan.Ruled != 3 {
		t.Error(plan.Whole, plan.Linked, plan.Ruled)
	}
}

// 15.1, 15.2: the first of the three that can be.
func TestPlans(t *testing.T) {
	whole, linked := why{whole: true}, why{acyclic: true, sound: true}
	wrong, round := why{acyclic: true}, why{}
	for _, c := range []struct {
		nodes, flows string
		kind         int
		text         string
		reason       why
	}{
		{"se", "0-1", plan.Whole, "-", whole},
		{"ste", "0-1 1-2", plan.Whole, "1", whole},
		{"satce", "0-1 1-2 2-3 3-4", plan.Whole, "(seq 1 2 3)", whole},
		{"sxtxe", "0-1 1-2 1-3 2-3 3-4", plan.Whole, "(alt:1 2 -)", whole},
		{"snttne", "0-1 1-2 1-3 2-4 3-4 4-5", plan.Whole, "(par:1 2 3)", whole},
		{"svmcxe", "0-1 1-2 1-3 2-4 3-4 4-5", plan.Whole, "(pick:1 - -)", whole},
		// What goes round, and a block's fork within a round, can be whole as well.
		{"sxtxe", "0-1 1-2 2-3 3-1 3-4", plan.Whole, "(loop:3/1 2 -)", whole},
		{"sxntnxe", "0-1 1-2 2-3 2-4 3-4 4-5 5-1 5-6", plan.Whole, "(loop:5/1 (par:2 3 -) -)", whole},
		// Forks, and choices, that are joined crosswise.
		{"snnttnne", "0-1 1-2 1-5 2-3 2-6 3-5 5-4 4-6 6-7", plan.Linked, "(web g1 g2 3 4 g5 g6 [-1 0 0] [0 1 1] [0 4 2] [1 2 3] [1 5 4] [2 4 5] [4 3 6] [3 5 7] [5 -1 8])", linked},
		{"sxxttxxe", "0-1 1-2 1-5 2-3 2-6 3-5 5-4 4-6 6-7", plan.Linked, "(web g1 g2 3 4 g5 g6 [-1 0 0] [0 1 1] [0 4 2] [1 2 3] [1 5 4] [2 4 5] [4 3 6] [3 5 7] [5 -1 8])", linked},
		// A loop and an event that are folded are no matter.
		{"snnxxvmcxnne", "0-1 1-2 1-9 2-3 3-4 4-3 4-9 2-10 9-5 5-6 5-7 6-8 7-8 8-10 10-11", plan.Linked,
			"(web g1 g2 (loop:4/1 - -) (pick:5 - -) g9 g10 [-1 0 0] [0 1 1] [0 4 2] [1 2 3] [2 4 6] [1 5 7] [4 3 8] [3 5 13] [5 -1 14])", linked},
		// Acyclic and not sound: a token is left, too many, or stuck.
		{"sntxe", "0-1 1-2 1-3 2-3 3-4", plan.Ruled, "*", wrong},
		{"snxte", "0-1 1-2 1-2 2-3 3-4", plan.Ruled, "*", wrong},
		{"sxtne", "0-1 1-2 1-3 2-3 3-4", plan.Ruled, "*", wrong},
		// Sound, but it goes round: two rounds that cross.
		{"sxxxxe", "0-1 1-2 2-3 3-1 3-4 4-2 4-5", plan.Ruled, "*", round},
		// It goes round, and is not sound either.
		{"snxe", "0-2 2-1 1-2 1-3", plan.Ruled, "*", round},
		// Sound, and nothing goes round, but an Event is left.
		{"svmcxxxe", "0-1 1-2 1-3 2-4 4-5 4-6 3-5 5-6 6-7", plan.Ruled, "*", round},
		{"svmcne", "0-1 1-2 1-3 2-4 3-4 4-5", plan.Ruled, "*", round},
		// Nodes and flows in another order.
		{"etxsx", "2-1 2-4 4-0 1-4 3-2", plan.Whole, "(alt:2 1 -)", whole},
		{"xets", "3-0 0-2 2-1 0-1", 0, "", why{}},
	} {
		n := sample.Of(c.nodes, c.flows)
		if c.kind == 0 {
			wantNone(t, c.nodes+" "+c.flows, n)
			continue
		}
		wantPlan(t, c.nodes+" "+c.flows, n, c.text, c.kind, c.reason)
	}
}

func wantNone(t *testing.T, what string, n api.Net) {
	t.Helper()
	if b, kind, e := plan.Of(n); e != api.ErrForm || kind != 0 || !reflect.DeepEqual(b, block.Block{}) {
		t.Errorf("Of %s: %v, %d, %v", what, b, kind, e)
	}
	if got := reasons(n); got != (why{}) {
		t.Errorf("Why of %s: %v", what, got)
	}
}

// 15.1, 15.2: a process that breaks a rule has no plan, whichever that is.
func TestWrong(t *testing.T) {
	wantNone(t, "nothing", api.Net{})
	wantNone(t, "no flows", api.Net{Nodes: sample.Of("ste", "").Nodes})
	wantNone(t, "a task that leads nowhere", sample.Of("ste", "0-1"))
	wantNone(t, "two Starts", sample.Of("sstxe", "0-3 1-2 2-3 3-4"))
	n := sample.Of("ste", "0-1 1-2")
	n.Nodes[1].A = api.Vars
	wantNone(t, "a variable that is none", n)
	n = sample.Of("ste", "0-1 1-2")
	n.Flows[1].Else = true
	wantNone(t, "an Else behind a Task", n)
	n = sample.Of("ste", "0-1 1-2")
	n.Nodes = append(n.Nodes, make([]api.Node, api.MaxNodes)...)
	wantNone(t, "too many nodes", n)
	wantNone(t, "a round that is led to from nowhere", sample.Of("stexx", "0-1 1-2 3-4 4-3"))
}

// wide is an And with so many tasks, two of which are not joined where the others are.
func wide(tasks int) api.Net {
	last := tasks + 4
	nodes, flows := "snnn"+strings.Repeat("t", tasks)+"e", "0-1 2-3 3-"+strconv.Itoa(last)
	for i := 4; i < last; i++ {
		to := "2"
		if i < 6 {
			to = "3"
		}
		flows += " 1-" + strconv.Itoa(i) + " " + strconv.Itoa(i) + "-" + to
	}
	return sample.Of(nodes, flows)
}

// 15.1, 15.2: a web of which there are too many markings to tell is not sound (sound.Sound), and by rules.
func TestTooManyMarkings(t *testing.T) {
	for tasks := 4; tasks <= 16; tasks++ {
		_, kind, e := plan.Of(wide(tasks))
		wanted, reason := plan.Linked, why{acyclic: true, sound: true}
		if tasks > 10 {
			wanted, reason = plan.Ruled, why{acyclic: true}
		}
		if got := reasons(wide(tasks)); kind != wanted || e != api.OK || got != reason {
			t.Errorf("%d tasks: %d, %v, %v", tasks, kind, e, got)
		}
	}
}

// R3, R6: the process is left as it is, and the same is told again, in memory of its own.
func TestMemory(t *testing.T) {
	for _, flows := range []string{"0-1 1-2 1-5 2-3 2-6 3-5 5-4 4-6 6-7", "0-1 1-2 1-2 2-3 3-4 4-5 5-6 5-6 6-7"} {
		n := sample.Of("snnttnne", flows)
		a, _, _ := plan.Of(n)
		b, _, _ := plan.Of(n)
		text, _ := block.Text(b)
		clear(a.Kids[:cap(a.Kids)])
		clear(a.Links[:cap(a.Links)])
		if again, _ := block.Text(b); again != text {
			t.Errorf("%s was changed to %s", text, again)
		}
		plan.Why(n)
		if !reflect.DeepEqual(n, sample.Of("snnttnne", flows)) {
			t.Error("the process was changed")
		}
		if c, _, _ := plan.Of(n); !block.Same(b, c) {
			t.Errorf("%v, then %v", b, c)
		}
	}
}
