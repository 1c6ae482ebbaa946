package block_test

import (
	"math"
	"reflect"
	"slices"
	"strings"
	"testing"

	"treenail/api"
	"treenail/block"
	"treenail/sample"
)

// process has the nodes 0 Start, 1 Xor (two outs), 2 Task, 3 Assign, 4 Xor (joins), 5 And (three outs), 6 Event (7, 8),
// 7 Catch, 8 Catch, 9 Xor (joins), 10 And (joins), 11 End, 12 Catch, 13 Task, 14 Xor (three outs), 15 Xor (joins); and 21 flows.
func process() api.Net {
	is := api.Term{Op: api.OpEq, Kids: []api.Term{{Op: api.OpVar}, {Op: api.OpNum, N: 1}}}
	var n api.Net
	for _, kind := range []int{api.Start, api.Xor, api.Task, api.Assign, api.Xor, api.And, api.Event, api.Catch, api.Catch, api.Xor, api.And, api.End, api.Catch, api.Task, api.Xor, api.Xor} {
		n.Nodes = append(n.Nodes, api.Node{Kind: kind})
	}
	n.Nodes[3].Term, n.Nodes[8].A = api.Term{Op: api.OpNum}, api.Msgs
	for _, ends := range [][2]int{
		{0, 1}, {1, 2}, {1, 3}, {2, 4}, {3, 4}, {4, 5}, {5, 6}, {5, 12}, {5, 13}, {6, 7}, {6, 8}, {7, 9}, {8, 9}, {9, 10}, {12, 10}, {13, 10},
		{10, 14}, {14, 15}, {14, 15}, {14, 15}, {15, 11},
	} {
		n.Flows = append(n.Flows, api.Flow{From: ends[0], To: ends[1]})
	}
	n.Flows[1].Cond, n.Flows[17].Cond, n.Flows[18].Cond = is, is, is
	n.Flows[2].Else, n.Flows[19].Else = true, true
	return n
}

// chain is a chain of so many blocks that lie in one another.
func chain(levels int) block.Block {
	b := block.Block{Kind: block.Empty}
	for range levels - 1 {
		b = block.Block{Kind: block.Alt, Node: 1, Kids: []block.Block{b}}
	}
	return b
}

// row is a Seq of so many blocks, with itself.
func row(blocks int) block.Block {
	return block.Block{Kind: block.Seq, Kids: slices.Repeat([]block.Block{{Kind: block.Empty}}, blocks-1)}
}

func wantCheck(t *testing.T, what string, n api.Net, b block.Block, want api.Errno) {
	t.Helper()
	if e := block.Check(n, b); e != want {
		t.Errorf("Check of %s: %v; want %v", what, e, want)
	}
	if l, e := block.Leaves(n, b); e != want || e != api.OK && len(l) > 0 {
		t.Errorf("Leaves of %s: %v, %v; want %v", what, l, e, want)
	}
}

func wantText(t *testing.T, b block.Block, want string, err api.Errno) {
	t.Helper()
	if s, e := block.Text(b); s != want || e != err {
		t.Errorf("Text: %.99q, %v; want %.99q, %v", s, e, want, err)
	}
}

// 10.1: each kind, with nodes and kids that are right, and others.
func TestKinds(t *testing.T) {
	n := process()
	for _, c := range []struct {
		e     api.Errno
		texts []string
	}{
		{api.OK, []string{
			"-", "*", "2", "3", "7", "8", "12", "g1", "g4", "g5", "g6", "g10", "g15",
			"(seq 2 3)", "(seq - -)", "(seq 2 - 3 12 13)", "(seq (alt:1 2 3) (par:5 (pick:6 - -) 12 13) (alt:14 - - -))",
			"(par:5 2 3 12)", "(alt:1 - -)", "(alt:14 2 (seq 3 12) -)", "(pick:6 2 -)", "(loop:1/0 - -)", "(loop:1/1 2 (seq 3 12))",
			"(web 2 [-1 0 0] [0 -1 1])", "(web - - [-1 1 20] [0 -1 20])", "(web g1 2 (alt:14 - - -) g4 [0 1 1] [-1 0 0] [3 -1 5] [0 1 1] [1 2 0])",
			"(web (seq 2 3) [-1 0 0] [0 -1 0])", "(web g5 g10 - [0 -1 16] [-1 1 6])",
		}},
		{api.ErrForm, []string{
			"0", "1", "4", "5", "6", "9", "10", "11", "14", "16", "99", "g0", "g2", "g3", "g7", "g11", "g12", "g16", "g9223372036854775807",
			"(seq)", "(seq 2)", "(seq 2 (seq 3 12))", "(seq (seq - -) -)", "(seq 2 g1)", "(seq 2 *)", "(seq * *)", "(seq 2 (web 3 [-1 0 0] [0 -1 0]))", "(seq 2 1)",
			"(par:5 2 3)", "(par:5 2 3 12 13)", "(par:10 2)", "(par:10 2 3)", "(par:1 2 3)", "(par:14 - - -)", "(par:6 - -)", "(par:0 -)", "(par:16 - -)", "(par:5)", "(par:5 g4 2 3)", "(par:5 2 3 *)",
			"(alt:1 2)", "(alt:1 2 3 12)", "(alt:14 - -)", "(alt:4 -)", "(alt:15 2)", "(alt:4 - -)", "(alt:5 - - -)", "(alt:6 - -)", "(alt:2 -)", "(alt:11)", "(alt:99 - -)", "(alt:1 2 g4)", "(alt:1 * -)",
			"(pick:6 -)", "(pick:6 - - -)", "(pick:1 - -)", "(pick:5 - - -)", "(pick:7 -)", "(pick:7 - -)", "(pick:6 g4 -)", "(pick:6 - *)", "(pick:-1 - -)",
			"(loop:1/2 - -)", "(loop:1/-1 - -)", "(loop:1/0 -)", "(loop:1/0 - - -)", "(loop:1/0)", "(loop:14/0 - -)", "(loop:14/1 - - -)", "(loop:4/0 - -)", "(loop:5/0 - -)", "(loop:6/0 - -)", "(loop:2/0 - -)", "(loop:1/0 g4 -)", "(loop:1/0 - *)",
			"(web)", "(web [-1 -1 0])", "(web (web 2 [-1 0 0] [0 -1 0]) [-1 0 0] [0 -1 0])", "(web * [-1 0 0] [0 -1 0])", "(web (alt:1 g4 -) [-1 0 0] [0 -1 0])", "(web (seq - g1) [-1 0 0] [0 -1 0])",
			"(web 0 [-1 0 0] [0 -1 0])", "(alt:1 2 (alt:14 - - (seq 3)))", "(alt:1 (web 2 [-1 0 0] [0 -1 0]) -)",
		}},
		{api.ErrSame, []string{
			"(seq 2 2)", "(seq (alt:1 2 3) (alt:1 - -))", "(alt:1 2 (alt:14 - - 2))", "(loop:1/0 (alt:1 - -) -)", "(par:5 (par:5 - - -) - -)",
			"(pick:6 7 -)", "(pick:6 - 8)", "(seq 8 (pick:6 - -))", "(seq (pick:6 - -) (pick:6 - -))", "(pick:6 (pick:6 - -) -)",
			"(web g1 g1 [-1 0 0] [1 -1 0])", "(web g1 (alt:1 - -) [-1 0 0] [1 -1 0])", "(web 2 (alt:1 - 2) [-1 0 0] [1 -1 0])", "(web g6 (pick:6 - -) [-1 0 0] [1 -1 0])",
			"(web g1 (loop:1/0 - -) [-1 0 0] [1 -1 0])", "(web (pick:6 - -) 8 [-1 0 0] [1 -1 0])",
		}},
	} {
		for _, s := range c.texts {
			b := sample.Block(s)
			wantCheck(t, s, n, b, c.e)
			if !strings.Contains(s, ":-1") && !strings.Contains(s, "/-1") {
				wantText(t, b, s, api.OK)
			}
		}
	}
	wantCheck(t, "an Event's Gate beside its Catches", n, sample.Block("(web g6 7 8 [-1 0 0] [1 -1 0])"), api.OK)
	wantCheck(t, "no kind", n, block.Block{}, api.ErrForm)
	for _, kind := range []int{-1, 0, 11, math.MinInt, math.MaxInt} {
		wantCheck(t, "no kind", n, block.Block{Kind: kind}, api.ErrForm)
		wantCheck(t, "a kid of no kind", n, block.Block{Kind: block.Seq, Kids: []block.Block{{Kind: block.Leaf, Node: 2}, {Kind: kind}}}, api.ErrForm)
	}
	wantCheck(t, "a negative node", n, block.Block{Kind: block.Leaf, Node: -1}, api.ErrForm)
	wantCheck(t, "a negative node", n, block.Block{Kind: block.Gate, Node: math.MinInt}, api.ErrForm)
}

// 10.1: what a kind does not tell is 0, and there is none of it.
func TestNotTold(t *testing.T) {
	n := process()
	changes := []struct {
		what   string
		change func(b *block.Block)
		right  []int
	}{
		{"a node", func(b *block.Block) { b.Node = 1 }, []int{block.Alt, block.Loop, block.Gate}},
		{"a node below 0", func(b *block.Block) { b.Node = -1 }, nil},
		{"an arg", func(b *block.Block) { b.Arg = 1 }, []int{block.Loop}},
		{"an arg below 0", func(b *block.Block) { b.Arg = -1 }, nil},
		{"a kid", func(b *block.Block) { b.Kids = []block.Block{{Kind: block.Empty}} }, []int{block.Web}},
		{"no kids", func(b *block.Block) { b.Kids = nil }, []int{block.Empty, block.Leaf, block.Gate, block.Rules}},
		{"links", func(b *block.Block) { b.Links = []block.Link{{From: -1}, {To: -1}} }, []int{block.Web}},
		{"a link", func(b *block.Block) { b.Links = make([]block.Link, 1) }, nil},
		{"empty lists", func(b *block.Block) {
			b.Kids, b.Links = append([]block.Block{}, b.Kids...), append([]block.Link{}, b.Links...)
		}, []int{1, 2, 3, 4, 5, 6, 7, 8, 9, 10}},
	}
	for _, s := range []string{"-", "2", "(seq 2 3)", "(par:5 - - -)", "(alt:1 - -)", "(pick:6 - -)", "(loop:1/1 - -)", "g4", "(web - [-1 0 0] [0 -1 0])", "*"} {
		wantCheck(t, s, n, sample.Block(s), api.OK)
		for _, c := range changes {
			b, want := sample.Block(s), api.ErrForm
			if slices.Contains(c.right, b.Kind) {
				want = api.OK
			}
			c.change(&b)
			wantCheck(t, s+" with "+c.what, n, b, want)
		}
	}
}

// 10.1: links.
func TestLinks(t *testing.T) {
	n := process()
	web := func(l ...block.Link) block.Block {
		return block.Block{Kind: block.Web, Kids: []block.Block{{Kind: block.Gate, Node: 1}, {Kind: block.Leaf, Node: 2}}, Links: l}
	}
	in, out := block.Link{From: -1, To: 0, Flow: 0}, block.Link{From: 1, To: -1, Flow: 20}
	for i, c := range []struct {
		e api.Errno
		b block.Block
	}{
		{api.OK, web(in, out)}, {api.OK, web(out, in)}, {api.OK, web(in, block.Link{From: 0, To: 1, Flow: 1}, out, block.Link{From: 1, To: 0, Flow: 1})},
		{api.ErrForm, web()}, {api.ErrForm, web(in)}, {api.ErrForm, web(out)}, {api.ErrForm, web(in, in, out)}, {api.ErrForm, web(in, out, out)},
		{api.ErrForm, web(in, out, block.Link{From: 0, To: 0})}, {api.ErrForm, web(in, out, block.Link{From: 1, To: 1})},
		{api.ErrForm, web(block.Link{From: -1, To: -1})}, {api.ErrForm, web(in, out, block.Link{From: -1, To: -1})},
		{api.ErrForm, web(in, out, block.Link{From: 2, To: 0})}, {api.ErrForm, web(in, out, block.Link{From: 0, To: 2})},
		{api.ErrForm, web(in, out, block.Link{From: -2, To: 0})}, {api.ErrForm, web(in, out, block.Link{From: 0, To: -2})},
		{api.ErrForm, web(in, out, block.Link{From: math.MinInt, To: 0})}, {api.ErrForm, web(in, out, block.Link{From: 0, To: math.MaxInt})},
		{api.ErrForm, web(in, out, block.Link{From: 0, To: 1, Flow: 21})}, {api.ErrForm, web(in, out, block.Link{From: 0, To: 1, Flow: -1})},
		{api.ErrForm, web(block.Link{From: -1, To: 0, Flow: 99}, out)},
	} {
		if e := block.Check(n, c.b); e != c.e {
			t.Errorf("%d: %v; want %v", i, e, c.e)
		}
	}
	more := slices.Repeat([]block.Link{{From: 0, To: 1}}, api.MaxFlows-2)
	wantCheck(t, "MaxFlows links", n, web(append(more, in, out)...), api.OK)
	wantCheck(t, "a link more", n, web(append(more, in, out, more[0])...), api.ErrForm)
}

// 10.1: how many blocks, and how deep, at the limit and one past it; and what is told first.
func TestLimits(t *testing.T) {
	n := process()
	wantCheck(t, "96 blocks", n, row(96), api.OK)
	wantCheck(t, "97 blocks", n, row(97), api.ErrLong)
	wantCheck(t, "1000000 blocks", n, row(1000000), api.ErrLong)
	wantText(t, row(96), "(seq"+strings.Repeat(" -", 95)+")", api.OK)
	wantText(t, row(97), "", api.ErrLong)
	wantCheck(t, "24 levels", n, chain(24), api.ErrForm)
	wantCheck(t, "25 levels", n, chain(25), api.ErrLong)
	wantText(t, chain(24), strings.Repeat("(alt:1 ", 23)+"-"+strings.Repeat(")", 23), api.OK)
	wantText(t, chain(25), "", api.ErrLong)
	wantText(t, chain(5000), "", api.ErrLong)
	deep := block.Block{Kind: block.Seq, Kids: append(row(73).Kids, chain(23))}
	wantText(t, deep, "(seq"+strings.Repeat(" -", 72)+" "+strings.Repeat("(alt:1 ", 22)+"-"+strings.Repeat(")", 23), api.OK)
	deep.Kids = append(deep.Kids, block.Block{Kind: block.Empty})
	wantText(t, deep, "", api.ErrLong)

	wrong := row(97)
	wrong.Kids[3].Kind = 77
	wantCheck(t, "too many, and a wrong one", n, wrong, api.ErrLong)
	wantText(t, wrong, "", api.ErrLong)
	wantCheck(t, "too many kids of a Leaf", n, block.Block{Kind: block.Leaf, Node: 2, Kids: row(97).Kids}, api.ErrLong)
	wantCheck(t, "a wrong one, and one twice", n, sample.Block("(seq 2 2 1)"), api.ErrForm)
	for _, m := range []api.Net{{}, {Nodes: n.Nodes}, {Nodes: n.Nodes, Flows: n.Flows[1:]}} {
		for _, b := range []block.Block{{}, {Kind: block.Empty}, {Kind: block.Rules}, row(97), sample.Block("(seq 2 2)")} {
			wantCheck(t, "a wrong process's block", m, b, api.ErrArg)
		}
	}
}

// 10.1: Tasks, Assigns and Catches, of a Pick the Catches behind it as well.
func TestLeaves(t *testing.T) {
	n := process()
	for s, want := range map[string][]int{
		"-": {}, "13": {13}, "g1": {}, "g6": {}, "*": {2, 3, 7, 8, 12, 13}, "(seq 12 3 13)": {3, 12, 13}, "(pick:6 - 2)": {2, 7, 8}, "(loop:1/0 12 2)": {2, 12},
		"(seq (par:5 (pick:6 3 -) 12 13) (alt:1 - 2))": {2, 3, 7, 8, 12, 13}, "(web g6 8 g1 2 [-1 0 0] [1 -1 0])": {2, 8},
	} {
		for range 2 {
			l, e := block.Leaves(n, sample.Block(s))
			if e != api.OK || len(l)+len(want) > 0 && !slices.Equal(l, want) {
				t.Errorf("Leaves of %s: %v, %v; want %v", s, l, e, want)
			}
			for i := range l[:cap(l)] {
				l[:cap(l)][i] = -1
			}
		}
	}
}

// 10.2: texts, of what is no block as well.
func TestText(t *testing.T) {
	wantText(t, block.Block{Kind: block.Seq, Kids: []block.Block{{Kind: block.Leaf, Node: 1}, {Kind: block.Alt, Node: 2, Kids: []block.Block{{Kind: block.Leaf, Node: 3}, {Kind: block.Empty}}}}}, "(seq 1 (alt:2 3 -))", api.OK)
	kids := []block.Block{{Kind: block.Rules}, {Kind: block.Gate, Node: 0}}
	links := []block.Link{{From: -1, To: -1, Flow: -1}, {From: math.MaxInt, To: 0, Flow: 12}}
	for kind, want := range map[int]string{
		block.Empty: "-", block.Leaf: "7", block.Seq: "(seq * g0)", block.Par: "(par:7 * g0)", block.Alt: "(alt:7 * g0)", block.Pick: "(pick:7 * g0)",
		block.Loop: "(loop:7/9 * g0)", block.Gate: "g7", block.Web: "(web * g0 [-1 -1 -1] [9223372036854775807 0 12])", block.Rules: "*",
	} {
		wantText(t, block.Block{Kind: kind, Node: 7, Arg: 9, Kids: kids, Links: links}, want, api.OK)
	}
	wantText(t, block.Block{Kind: block.Web}, "(web)", api.OK)
	wantText(t, block.Block{Kind: block.Leaf, Node: math.MaxInt}, "9223372036854775807", api.OK)
	for _, wrong := range []block.Block{
		{}, {Kind: -1}, {Kind: 11}, {Kind: math.MaxInt}, {Kind: math.MinInt}, {Kind: block.Leaf, Node: -1}, {Kind: block.Empty, Node: -1}, {Kind: block.Loop, Arg: -1}, {Kind: block.Seq, Arg: math.MinInt},
		{Kind: block.Web, Links: []block.Link{{}, {From: -2}}}, {Kind: block.Web, Links: []block.Link{{To: -2}}}, {Kind: block.Web, Links: []block.Link{{Flow: -2}}}, {Kind: block.Leaf, Links: []block.Link{{Flow: math.MinInt}}},
	} {
		wantText(t, wrong, "", api.ErrForm)
		for kind := block.Empty; kind <= block.Rules; kind++ {
			wantText(t, block.Block{Kind: kind, Kids: []block.Block{{Kind: block.Empty}, wrong}}, "", api.ErrForm)
		}
	}
}

// 10.2: Same asks for every field, in whatever order they stand; a list without an element may be nil or empty.
func TestSame(t *testing.T) {
	some := func() block.Block {
		return sample.Block("(web g1 (seq 2 (loop:14/1 - 3)) * [-1 0 0] [0 1 1] [2 -1 3])")
	}
	a := some()
	if !block.Same(a, some()) || !block.Same(block.Block{}, block.Block{}) {
		t.Error("they are not the same")
	}
	for i, change := range []func(b *block.Block){
		func(b *block.Block) { b.Kind = block.Seq }, func(b *block.Block) { b.Node = 1 }, func(b *block.Block) { b.Arg = 1 },
		func(b *block.Block) { b.Kids[1].Kids[1].Kids[1].Node = 2 }, func(b *block.Block) { b.Kids[1].Kids[1].Kids[0].Kind = block.Rules },
		func(b *block.Block) { b.Kids[1].Kids[1].Arg = 0 }, func(b *block.Block) { b.Kids[1].Kids[1].Kids = nil },
		func(b *block.Block) { b.Kids[0], b.Kids[2] = b.Kids[2], b.Kids[0] }, func(b *block.Block) { b.Kids = b.Kids[:2] },
		func(b *block.Block) { b.Links[2].From = 1 }, func(b *block.Block) { b.Links[1].To = 0 }, func(b *block.Block) { b.Links[2].Flow = 4 },
		func(b *block.Block) { b.Links[1], b.Links[2] = b.Links[2], b.Links[1] }, func(b *block.Block) { b.Links = b.Links[:2] },
		func(b *block.Block) { b.Kids[2].Links = b.Links[:1] }, func(b *block.Block) { b.Kids[2].Kids = b.Kids[:1] },
	} {
		b := some()
		change(&b)
		if block.Same(a, b) || block.Same(b, a) || !block.Same(b, b) {
			t.Errorf("%d: %v", i, b)
		}
	}
	b := some()
	b.Kids[0].Kids, b.Kids[2].Links = []block.Block{}, []block.Link{}
	if !block.Same(a, b) || !block.Same(b, a) {
		t.Error("empty lists make another block")
	}
	if !block.Same(chain(1000), chain(1000)) || block.Same(chain(1000), chain(999)) {
		t.Error("of chains")
	}
}

// 10.2: how many blocks there are.
func TestSize(t *testing.T) {
	for s, want := range map[string]int{"-": 1, "(seq 1 (alt:2 3 -))": 5, "(web g1 (par:5 - - -) [-1 0 0] [0 1 1] [1 -1 2])": 6} {
		if n := block.Size(sample.Block(s)); n != want {
			t.Errorf("Size of %s: %d; want %d", s, n, want)
		}
	}
	for _, levels := range []int{1, 2, 999, 1000} {
		if n := block.Size(chain(levels)); n != levels {
			t.Errorf("Size of a chain of %d: %d", levels, n)
		}
	}
	for _, blocks := range []int{1, 97, 100000} {
		if n := block.Size(row(blocks)); n != blocks {
			t.Errorf("Size of a row of %d: %d", blocks, n)
		}
	}
	if n := block.Size(block.Block{Kids: make([]block.Block, 3)}); n != 4 {
		t.Errorf("Size of no blocks: %d", n)
	}
}

// P3: blocks that lie in themselves.
func TestRound(t *testing.T) {
	for kids := 1; kids < 4; kids++ {
		l := make([]block.Block, kids)
		for i := range l {
			l[i] = block.Block{Kind: block.Seq, Kids: l}
		}
		wantCheck(t, "what lies in itself", process(), l[0], api.ErrLong)
		wantText(t, l[0], "", api.ErrLong)
		block.Same(l[0], l[kids-1])
		block.Size(l[0])
		if block.Same(l[0], chain(9)) {
			t.Error("it is the same as a chain")
		}
	}
}

// R3: what is handed in is left as it is, spare room too.
func TestUntouched(t *testing.T) {
	some := func() block.Block {
		b := sample.Block("(web g1 (pick:6 - (seq 2 3)) g4 8 [-1 0 0] [0 1 1] [2 -1 3])")
		b.Kids, b.Links = b.Kids[:3], b.Links[:3:3]
		return b
	}
	a, n := some(), process()
	for range 2 {
		block.Check(n, a)
		block.Leaves(n, a)
		block.Text(a)
		block.Same(a, some())
		block.Size(a)
		b := some()
		if !reflect.DeepEqual(a, b) || !reflect.DeepEqual(a.Kids[:4], b.Kids[:4]) || !reflect.DeepEqual(n, process()) {
			t.Fatal("something was changed")
		}
	}
}
