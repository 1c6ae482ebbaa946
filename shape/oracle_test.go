package shape_test

import (
	"math/rand"
	"slices"
	"testing"

	"treenail/api"
	"treenail/block"
	"treenail/bpel"
	"treenail/net"
	"treenail/plan"
	"treenail/sample"
	"treenail/shape"
)

// expected is the program of a block, by the chapter's list.
func expected(n api.Net, b block.Block) bpel.Act {
	var kids []bpel.Act
	for _, k := range b.Kids {
		kids = append(kids, expected(n, k))
	}
	var outs []api.Flow
	for _, f := range n.Flows {
		if f.From == b.Node {
			outs = append(outs, f)
		}
	}
	a := bpel.Act{Node: b.Node, Kids: kids}
	other := 0
	var conds []api.Term
	for i, f := range outs {
		conds = append(conds, f.Cond)
		if f.Else {
			other = i
		}
	}
	switch b.Kind {
	case block.Empty:
		return bpel.Act{Kind: bpel.Empty}
	case block.Leaf:
		a = leaf(n.Nodes[b.Node])
		a.Node = b.Node
	case block.Seq:
		a.Kind = bpel.Sequence
	case block.Par:
		a.Kind, a.Node = bpel.Flow, 0
	case block.Alt:
		a.Kind, a.A, a.Conds = bpel.If, other, conds
	case block.Pick:
		a.Kind = bpel.Pick
		for i, f := range outs {
			a.Kids[i] = bpel.Act{Kind: bpel.On, Node: f.To, A: n.Nodes[f.To].A, Kids: []bpel.Act{kids[i]}}
		}
	case block.Loop:
		a.Kind, a.A, a.B, a.Conds = bpel.Loop, other, b.Arg, conds
	case block.Gate:
		a.Kind = bpel.Gate
		a.A = map[int]int{api.And: 2, api.Xor: 4}[n.Nodes[b.Node].Kind]
		if len(outs) > 1 {
			a.A--
		}
		if a.A == 3 {
			a.B, a.Conds = other, conds
		}
	case block.Web:
		a.Kind = bpel.Web
		for _, l := range b.Links {
			a.Links = append(a.Links, bpel.Link{From: l.From, To: l.To})
		}
	case block.Rules:
		a.Kind, a.Net = bpel.Rules, n
	}
	return a
}

func leaf(x api.Node) bpel.Act {
	switch {
	case x.Kind == api.Catch && x.A == 4:
		return bpel.Act{Kind: bpel.Wait}
	case x.Kind == api.Catch:
		return bpel.Act{Kind: bpel.Receive, A: x.A}
	case x.Kind == api.Assign:
		return bpel.Act{Kind: bpel.Assign, A: x.A, Term: x.Term}
	}
	return bpel.Act{Kind: bpel.Invoke, A: x.A}
}

// wantShape holds the program of a block against the one that is expected, and tells what the error was.
func wantShape(t *testing.T, n api.Net, b block.Block) api.Errno {
	t.Helper()
	a, err := shape.Of(n, b)
	text, _ := block.Text(b)
	want, like := block.Check(n, b), bpel.Act{}
	if want == api.OK && (b.Kind == block.Gate || slices.ContainsFunc(b.Kids, func(k block.Block) bool { return k.Kind == block.Gate && n.Nodes[k.Node].Kind == api.Event })) {
		want = api.ErrForm
	}
	if want == api.OK {
		like = expected(n, b)
		if want = bpel.Check(like); want != api.OK {
			like = bpel.Act{}
		}
	}
	if err != want || !bpel.Same(a, like) {
		t.Fatalf("Of %v, %s: %v, %v; want %v, %v", n, text, a, err, like, want)
	}
	if err == api.OK {
		wantPassed(t, n, b, a)
	}
	return err
}

// wantPassed: 18.2, 18.3.
func wantPassed(t *testing.T, n api.Net, b block.Block, a bpel.Act) {
	t.Helper()
	if err := bpel.Check(a); err != api.OK {
		t.Fatalf("%v: %v", a, err)
	}
	var having []int
	ons := 0
	for _, x := range bpel.Items(a) {
		switch x.Act.Kind {
		case bpel.Empty, bpel.Sequence, bpel.Flow, bpel.Web, bpel.Rules:
			continue
		case bpel.On:
			ons++
		}
		having = append(having, x.Act.Node)
	}
	nodes := shape.Nodes(a)
	if !slices.Equal(nodes, having) || bpel.Size(a) != block.Size(b)+ons {
		t.Fatalf("Nodes of %v: %v; want %v", a, nodes, having)
	}
	var leaves []int
	for _, i := range nodes {
		if slices.Contains([]int{api.Task, api.Assign, api.Catch}, n.Nodes[i].Kind) {
			leaves = append(leaves, i)
		}
	}
	slices.Sort(leaves)
	in, _ := block.Leaves(n, b)
	if b.Kind == block.Rules {
		in = nil
	}
	if !slices.Equal(leaves, in) {
		t.Fatalf("the leaves of %v: %v; want %v", a, leaves, in)
	}
}

// 18.1, 18.2, 18.3: any blocks of any processes.
func TestAnyBlocks(t *testing.T) {
	r := rand.New(rand.NewSource(18))
	var times [block.Rules + 1]map[api.Errno]int
	for i := range times {
		times[i] = map[api.Errno]int{}
	}
	for range 2000 {
		for _, process := range []func(func(int) int) api.Net{sample.Net, sample.Crossed, sample.Knit} {
			n := process(r.Intn)
			blocks := []block.Block{sample.Piece(n, r.Intn), sample.Web(n, r.Intn), sample.CrossedWeb(n, r.Intn)}
			for _, b := range blocks {
				times[b.Kind][wantShape(t, n, b)]++
			}
		}
	}
	for kind := block.Empty; kind <= block.Rules; kind++ {
		if times[kind][api.OK] < 50 && kind != block.Gate {
			t.Errorf("kind %d: %v", kind, times[kind])
		}
	}
	if times[block.Web][api.ErrForm] < 500 {
		t.Errorf("webs: %v", times[block.Web])
	}
}

// 18.1: each process's plan has a program.
func TestPlans(t *testing.T) {
	r := rand.New(rand.NewSource(19))
	var times [plan.Ruled + 1]int
	for range 4000 {
		for _, process := range []func(func(int) int) api.Net{sample.Net, sample.Crossed, sample.Knit} {
			n := process(r.Intn)
			b, kind, _ := plan.Of(n)
			if err := wantShape(t, n, b); err != api.OK {
				t.Fatalf("the plan %v of %v: %v", b, n, err)
			}
			times[kind]++
		}
	}
	if min(times[plan.Whole], times[plan.Linked], times[plan.Ruled]) < 100 {
		t.Errorf("%v", times)
	}
	wrong := sample.Of("ste", "0-1")
	if rule, _ := net.Check(wrong); rule == 0 || wantShape(t, wrong, block.Block{Kind: block.Rules}) != api.ErrArg {
		t.Error("a wrong process has a program")
	}
}
