package shape_test

import (
	"reflect"
	"slices"
	"strconv"
	"strings"
	"testing"

	"treenail/api"
	"treenail/block"
	"treenail/bpel"
	"treenail/net"
	"treenail/page"
	"treenail/sample"
	"treenail/shape"
)

// process has all kinds of nodes: 1 and 9 are Ands, 2 and 8 Xors, 3 is an Event; its catches are 4, of a timer, and 5.
func process(t *testing.T) api.Net {
	t.Helper()
	n := sample.Of("snxvcmxxxnate", "0-1 1-2 1-3 2-10 2-7 2-8 3-4 3-5 4-6 5-6 6-9 10-7 7-8 8-11 11-9 9-12")
	n.Nodes[5].A, n.Nodes[10].A, n.Nodes[11].A = 3, 2, 1
	n.Nodes[10].Term = api.Term{Op: api.OpNeg, Kids: []api.Term{{Op: api.OpVar, N: 1}}}
	if rule, at := net.Check(n); rule != 0 {
		t.Fatalf("rule %d is broken at %d", rule, at)
	}
	return n
}

// wantText asks for the program of a block, both as texts.
func wantText(t *testing.T, n api.Net, b, want string) {
	t.Helper()
	a, err := shape.Of(n, sample.Block(b))
	if s, _ := page.Write(a); s != want || err != api.OK {
		t.Errorf("Of %s: %s, %v; want %s", b, s, err, want)
	}
}

func wantErr(t *testing.T, what string, n api.Net, b block.Block, want api.Errno) {
	t.Helper()
	if a, err := shape.Of(n, b); err != want || err != api.OK && !reflect.DeepEqual(a, bpel.Act{}) {
		t.Errorf("Of %s: %v, %v; want %v", what, a, err, want)
	}
}

// 18.1: the program of each kind of block.
func TestKinds(t *testing.T) {
	n := process(t)
	const c = ` c0="(eq $0 3)" c1="(eq $0 4)"`
	for b, want := range map[string]string{
		"-":                           "<empty/>",
		"11":                          `<invoke node="11" var="1"/>`,
		"10":                          `<assign node="10" var="2" value="(neg $1)"/>`,
		"5":                           `<receive node="5" message="3"/>`,
		"4":                           `<wait node="4"/>`,
		"(seq 11 - 4)":                `<sequence><invoke node="11" var="1"/><empty/><wait node="4"/></sequence>`,
		"(par:1 4 11)":                `<flow><wait node="4"/><invoke node="11" var="1"/></flow>`,
		"(alt:2 4 - 11)":              `<if node="2" else="2"` + c + `><wait node="4"/><empty/><invoke node="11" var="1"/></if>`,
		"(pick:3 - 11)":               `<pick node="3"><on node="4"><empty/></on><on node="5" message="3"><invoke node="11" var="1"/></on></pick>`,
		"(pick:3 (seq 11 10) -)":      `<pick node="3"><on node="4"><sequence><invoke node="11" var="1"/><assign node="10" var="2" value="(neg $1)"/></sequence></on><on node="5" message="3"><empty/></on></pick>`,
		"(web 11 [-1 0 0] [0 -1 15])": `<web><invoke node="11" var="1"/><link to="0"/><link from="0"/></web>`,
		"(web g9 4 g1 5 [0 -1 3] [2 1 0] [2 3 0] [1 0 0] [3 0 0] [-1 2 0])": `<web><gate node="9" kind="2"/><wait node="4"/><gate node="1" kind="1"/><receive node="5" message="3"/>` +
			`<link from="0"/><link from="2" to="1"/><link from="2" to="3"/><link from="1" to="0"/><link from="3" to="0"/><link to="2"/></web>`,
		"(web g2 11 g8 [-1 0 0] [0 1 0] [0 2 0] [0 2 0] [1 2 0] [2 -1 0])": `<web><gate node="2" kind="3" else="2"` + c + `/><invoke node="11" var="1"/><gate node="8" kind="4"/>` +
			`<link to="0"/><link from="0" to="1"/><link from="0" to="2"/><link from="0" to="2"/><link from="1" to="2"/><link from="2"/></web>`,
		"(web (pick:3 - -) [-1 0 0] [0 -1 0])": `<web><pick node="3"><on node="4"><empty/></on><on node="5" message="3"><empty/></on></pick><link to="0"/><link from="0"/></web>`,
	} {
		wantText(t, n, b, want)
	}
	a, err := shape.Of(n, block.Block{Kind: block.Rules})
	if err != api.OK || !bpel.Same(a, bpel.Act{Kind: bpel.Rules, Net: n}) {
		t.Errorf("Of rules: %v, %v", a, err)
	}
}

// 18.1: loops, whichever leaves, and wherever the Else one stands; and choices likewise.
func TestElse(t *testing.T) {
	for other := range 2 {
		for arg := range 2 {
			n := sample.Of("sxtxe", "0-1 1-2 2-3 3-1 3-4")
			cond := n.Flows[3].Cond
			n.Flows[3].Else, n.Flows[3].Cond = other == 0, api.Term{}
			n.Flows[4].Else = other == 1
			n.Flows[4-other].Cond = cond
			a, err := shape.Of(n, block.Block{Kind: block.Loop, Node: 3, Arg: arg, Kids: []block.Block{{Kind: block.Leaf, Node: 2}, {Kind: block.Empty}}})
			want := bpel.Act{Kind: bpel.Loop, Node: 3, A: other, B: arg, Conds: make([]api.Term, 2), Kids: []bpel.Act{{Kind: bpel.Invoke, Node: 2}, {Kind: bpel.Empty}}}
			want.Conds[1-other] = cond
			if !bpel.Same(a, want) || err != api.OK {
				t.Errorf("Of a loop: %v, %v; want %v", a, err, want)
			}
		}
	}
	for other := range 3 {
		n := process(t)
		conds := []api.Term{n.Flows[3].Cond, n.Flows[4].Cond}
		for i, f := range []int{3, 4, 5} {
			n.Flows[f].Else = i == other
		}
		conds = slices.Insert(conds, other, api.Term{})
		for i, f := range []int{3, 4, 5} {
			n.Flows[f].Cond = conds[i]
		}
		kids := []bpel.Act{{Kind: bpel.Empty}, {Kind: bpel.Wait, Node: 4}, {Kind: bpel.Empty}}
		a, err := shape.Of(n, sample.Block("(alt:2 - 4 -)"))
		if !bpel.Same(a, bpel.Act{Kind: bpel.If, Node: 2, A: other, Conds: conds, Kids: kids}) || err != api.OK {
			t.Errorf("Of a choice with else %d: %v, %v", other, a, err)
		}
		a, err = shape.Of(n, sample.Block("(web g2 g8 [-1 0 0] [0 1 0] [0 1 0] [0 1 0] [1 -1 0])"))
		if err != api.OK || !bpel.Same(a.Kids[0], bpel.Act{Kind: bpel.Gate, Node: 2, A: 3, B: other, Conds: conds}) {
			t.Errorf("Of a gate with else %d: %v, %v", other, a, err)
		}
	}
}

// 18.1: the chapter's example, and the document's first ones.
func TestExamples(t *testing.T) {
	wantText(t, sample.Of("sxtxe", "0-1 1-2 1-3 2-3 3-4"), "(alt:1 2 -)", `<if node="1" else="1" c0="(eq $0 1)"><invoke node="2" var="0"/><empty/></if>`)
	wantText(t, sample.Of("ste", "0-1 1-2"), "1", `<invoke node="1" var="0"/>`)
	wantText(t, sample.Of("snttne", "0-1 1-2 1-3 2-4 3-4 4-5"), "(par:1 2 3)", `<flow><invoke node="2" var="0"/><invoke node="3" var="0"/></flow>`)
}

// 18.1: block.Check's errors come first.
func TestNoBlock(t *testing.T) {
	n := process(t)
	gate := block.Block{Kind: block.Gate, Node: 2}
	wantErr(t, "nothing", api.Net{}, block.Block{}, api.ErrArg)
	wantErr(t, "a gate of nothing", api.Net{}, gate, api.ErrArg)
	wrong := process(t)
	wrong.Nodes[11].A = api.Vars
	wantErr(t, "a leaf of a wrong process", wrong, sample.Block("4"), api.ErrArg)
	wantErr(t, "rules of a wrong process", wrong, sample.Block("*"), api.ErrArg)
	wantErr(t, "no block", n, block.Block{}, api.ErrForm)
	for _, b := range []string{"2", "0", "99", "(seq 4)", "(alt:2 - -)", "(alt:8 - -)", "(par:2 - - -)", "(pick:2 - - -)", "(loop:2/0 - -)", "(loop:2/2 - - -)", "(seq g2 4)", "(seq * 4)", "(web)", "(web 4)", "(par:1 - (seq - (seq - -)))", "(par:1 - g2)"} {
		wantErr(t, b, n, sample.Block(b), api.ErrForm)
	}
	for _, b := range []string{"(seq 4 4)", "(seq (pick:3 - -) 5)", "(pick:3 4 -)", "(alt:2 (alt:2 - - -) - -)", "(web g3 4 4 [-1 0 0] [0 -1 0])", "(web g2 g2 [-1 0 0] [0 -1 0])"} {
		wantErr(t, b, n, sample.Block(b), api.ErrSame)
	}
	wantErr(t, "97 blocks", n, row(96), api.ErrLong)
	wantErr(t, "97 blocks, a Gate of an Event among them", n, web(slices.Repeat([]block.Block{{Kind: block.Empty}}, 95), 3), api.ErrLong)
}

// row is a Seq of so many Empties.
func row(count int) block.Block {
	return block.Block{Kind: block.Seq, Kids: slices.Repeat([]block.Block{{Kind: block.Empty}}, count)}
}

// web is a Web of kids and a Gate, through which the way leads.
func web(kids []block.Block, gate int) block.Block {
	links := []block.Link{{From: -1, To: len(kids)}, {From: len(kids), To: -1}}
	return block.Block{Kind: block.Web, Kids: append(slices.Clone(kids), block.Block{Kind: block.Gate, Node: gate}), Links: links}
}

// 18.1: a Gate alone, and a Web with a Gate of an Event, have no program.
func TestGates(t *testing.T) {
	n := process(t)
	for _, node := range []int{1, 2, 3, 6, 7, 8, 9} {
		wantErr(t, "a Gate", n, block.Block{Kind: block.Gate, Node: node}, api.ErrForm)
	}
	for _, b := range []string{
		"(web g3 [-1 0 0] [0 -1 0])",
		"(web 11 g3 [-1 0 0] [0 1 0] [1 -1 0])",
		"(web g3 4 5 g6 [-1 0 0] [0 1 6] [0 2 7] [1 3 8] [2 3 9] [3 -1 10])",
		"(web g3 (seq 4 -) g6 [-1 0 0] [0 1 6] [0 2 7] [1 2 8] [2 -1 10])",
	} {
		wantErr(t, b, n, sample.Block(b), api.ErrForm)
	}
	// It counts for more than that there are too many activities.
	n = sample.Of("svcmxvcmxe", "0-1 1-2 1-3 2-4 3-4 4-5 5-6 5-7 6-8 7-8 8-9")
	kids := append(row(91).Kids, sample.Block("(pick:1 - -)"))
	wantErr(t, "96 blocks, a Pick and a Gate of an Event among them", n, web(kids, 5), api.ErrForm)
	wantErr(t, "96 blocks, a Pick among them", n, web(kids, 4), api.ErrLong)
}

// deepPick is a process with an Event, and a block of it in which what is behind the Event's catches lies so many levels deep.
func deepPick(levels int) (api.Net, block.Block) {
	const choices = 11
	nodes, flows := "s"+strings.Repeat("x", choices)+"vcmxe", "0-1 12-13 12-14 13-15 14-15 15-16"
	for i := 1; i <= choices; i++ {
		flows += " " + strconv.Itoa(i) + "-" + strconv.Itoa(i+1) + " " + strconv.Itoa(i) + "-15"
	}
	b := sample.Block("(pick:12 - -)")
	for level := levels - 2; level > 0; level-- {
		outer := block.Block{Kind: block.Seq, Kids: []block.Block{b, {Kind: block.Empty}}}
		if level%2 == 1 {
			outer.Kind, outer.Node = block.Alt, level/2+1
		}
		b = outer
	}
	return sample.Of(nodes, flows), b
}

// 18.1: a Pick's kids lie one deeper, and there is an On more of each.
func TestTooLarge(t *testing.T) {
	for levels := 2; levels <= 26; levels++ {
		want := api.OK
		if levels > 23 {
			want = api.ErrLong
		}
		n, b := deepPick(levels)
		wantErr(t, strconv.Itoa(levels)+" levels", n, b, want)
		if err := block.Check(n, b); (err == api.OK) != (levels <= 24) {
			t.Errorf("%d levels: %v", levels, err)
		}
	}
	n := process(t)
	for empties := 80; empties <= 93; empties++ {
		want := api.OK
		// With the Seq, the Pick, and its kids.
		if empties+4+2 > bpel.Most {
			want = api.ErrLong
		}
		b := row(empties)
		b.Kids[7] = sample.Block("(pick:3 - -)")
		wantErr(t, strconv.Itoa(empties)+" empties", n, block.Block{Kind: block.Seq, Kids: append(b.Kids, block.Block{Kind: block.Empty})}, want)
	}
	wantErr(t, "96 blocks", n, row(95), api.OK)
}

// 18.1: webs that are blocks, and no programs.
func TestNoWeb(t *testing.T) {
	n := process(t)
	for b, want := range map[string]api.Errno{
		// A link too few or too many, of a block or a gate.
		"(web 4 [-1 0 0] [0 -1 0])":                                api.OK,
		"(web 4 11 [-1 0 0] [0 -1 0])":                             api.ErrForm,
		"(web 4 11 [-1 0 0] [0 1 0] [0 1 0] [1 -1 0])":             api.ErrForm,
		"(web g1 g9 [-1 0 0] [0 1 0] [1 -1 0])":                    api.ErrForm,
		"(web g1 g9 [-1 0 0] [0 1 0] [0 1 0] [1 -1 0])":            api.OK,
		"(web g1 g9 [-1 0 0] [0 1 0] [0 1 0] [0 1 0] [1 -1 0])":    api.OK,
		"(web g9 g1 [-1 0 0] [0 1 0] [0 1 0] [1 -1 0])":            api.ErrForm,
		"(web g2 g8 [-1 0 0] [0 1 0] [0 1 0] [1 -1 0])":            api.ErrForm,
		"(web g2 g8 [-1 0 0] [0 1 0] [0 1 0] [0 1 0] [1 -1 0])":    api.OK,
		"(web g2 g9 [-1 0 0] [0 1 0] [0 1 0] [0 1 0] [1 -1 0])":    api.OK,
		"(web g2 g7 [-1 1 0] [1 0 0] [0 1 0] [0 1 0] [0 -1 0])":    api.ErrForm,
		"(web 4 g8 g7 [-1 0 0] [0 -1 0] [1 2 0] [2 1 0])":          api.ErrForm,
		"(web 4 11 [-1 1 0] [1 0 0] [0 -1 0])":                     api.OK,
		"(web 4 (pick:3 - -) [-1 0 0] [0 1 0] [1 -1 0])":           api.ErrSame,
		"(web 11 (pick:3 (seq 10 -) -) [-1 0 0] [0 1 0] [1 -1 0])": api.OK,
	} {
		wantErr(t, b, n, sample.Block(b), want)
	}
}

// 18.2: nodes of all activities that have one, in their order, of programs and of what is none.
func TestNodes(t *testing.T) {
	var flat bpel.Act
	var all []int
	for kind := -1; kind <= 16; kind++ {
		flat.Kids = append(flat.Kids, bpel.Act{Kind: kind, Node: 50 + kind, Net: sample.Of("ste", "0-1 1-2")})
		if slices.Contains([]int{bpel.Invoke, bpel.Assign, bpel.Receive, bpel.Wait, bpel.If, bpel.Pick, bpel.On, bpel.Loop, bpel.Gate}, kind) {
			all = append(all, 50+kind)
		}
	}
	wait := func(node int, kids ...bpel.Act) bpel.Act { return bpel.Act{Kind: bpel.Wait, Node: node, Kids: kids} }
	deep := wait(-1)
	for range 999 {
		deep = bpel.Act{Kind: bpel.Flow, Kids: []bpel.Act{deep}}
	}
	deepest := wait(5, deep, wait(6))
	many := bpel.Act{Kind: bpel.Web, Kids: slices.Repeat([]bpel.Act{wait(7, wait(7))}, 100000)}
	in := make([]bpel.Act, 2)
	in[0], in[1] = wait(1, in...), wait(2, in...)
	for i, c := range []struct {
		a    bpel.Act
		want []int
	}{
		{bpel.Act{}, nil},
		{bpel.Act{Kind: bpel.Empty}, nil},
		{bpel.Act{Kind: bpel.Rules, Net: sample.Of("ste", "0-1 1-2")}, nil},
		{wait(0), []int{0}},
		{wait(-7), []int{-7}},
		{flat, all},
		{bpel.Act{Kind: bpel.Flow, Kids: []bpel.Act{wait(3, wait(9, wait(1)), wait(2)), {Kids: []bpel.Act{wait(3)}}, wait(0)}}, []int{3, 9, 1, 2, 3, 0}},
		{deep, []int{-1}},
		{many, slices.Repeat([]int{7}, 200000)},
		// Nothing is told of what lies too deep.
		{deepest, nil},
		{in[0], nil},
	} {
		if got := shape.Nodes(c.a); !slices.Equal(got, c.want) {
			t.Errorf("%d: %.50v; want %.50v", i, got, c.want)
		}
	}
}

// R3, R6: the process and the block are left as they are; a program shares nothing with them, and no two lists of it share any, spare room too.
func TestMemory(t *testing.T) {
	n := process(t)
	// Conds and terms share their lists, and have spare room.
	room := append(make([]api.Term, 0, 9), api.Term{Op: api.OpVar, N: 1})
	n.Nodes[10].Term.Kids = room
	for _, f := range []int{3, 4} {
		n.Flows[f].Cond = api.Term{Op: api.OpNot, Kids: []api.Term{{Op: api.OpEq, Kids: append(room, room...)}}}
	}
	n.Flows[5].Cond.Kids = room[:0]
	for _, s := range []string{
		"*", "(seq 10 (alt:2 - - 11) (pick:3 - -))", "(web g2 10 g8 [-1 0 0] [0 1 0] [0 2 0] [0 2 0] [1 2 0] [2 -1 0])", "(par:1 (alt:2 - 10 -) -)",
	} {
		b := sample.Block(s)
		first, err := shape.Of(n, b)
		second, _ := shape.Of(n, b)
		was, _ := page.Elem(second)
		if err != api.OK {
			t.Fatalf("Of %s: %v", s, err)
		}
		lists := map[*api.Term]int{}
		count(first, lists)
		for _, times := range lists {
			if times > 1 {
				t.Errorf("Of %s: a list stands in it %d times", s, times)
			}
		}
		spoil(first)
		if again, _ := page.Elem(second); !reflect.DeepEqual(again, was) || !block.Same(b, sample.Block(s)) {
			t.Errorf("Of %s: lists are shared", s)
		}
		if third, _ := shape.Of(n, b); !bpel.Same(third, second) {
			t.Errorf("Of %s: the process was changed", s)
		}
	}
	if room = room[:9]; room[0].Op != api.OpVar || room[1].Op != api.OpVar || slices.ContainsFunc(room[2:], func(x api.Term) bool { return x.Op != 0 }) {
		t.Errorf("%v", room)
	}
}

// terms are the terms of an activity, its kids' aside.
func terms(a bpel.Act) []api.Term {
	l := append([]api.Term{a.Term}, a.Conds...)
	for _, x := range a.Net.Nodes {
		l = append(l, x.Term)
	}
	for _, x := range a.Net.Flows {
		l = append(l, x.Cond)
	}
	for i := 0; i < len(l); i++ {
		l = append(l, l[i].Kids...)
	}
	return l
}

// count counts how often lists of terms stand in a program.
func count(a bpel.Act, lists map[*api.Term]int) {
	for _, x := range terms(a) {
		if cap(x.Kids) > 0 {
			lists[&x.Kids[:1][0]]++
		}
	}
	for _, k := range a.Kids {
		count(k, lists)
	}
}

// spoil changes all that is in a program's lists, spare room too.
func spoil(a bpel.Act) {
	for _, x := range terms(a) {
		clear(x.Kids[:cap(x.Kids)])
	}
	for _, k := range a.Kids {
		spoil(k)
	}
	clear(a.Conds[:cap(a.Conds)])
	clear(a.Kids[:cap(a.Kids)])
	clear(a.Links[:cap(a.Links)])
	clear(a.Net.Nodes[:cap(a.Net.Nodes)])
	clear(a.Net.Flows[:cap(a.Net.Flows)])
}

// P3: calls end at anything.
func TestEnds(t *testing.T) {
	kids := make([]block.Block, 2)
	kids[0], kids[1] = block.Block{Kind: block.Alt, Node: 2, Kids: kids}, block.Block{Kind: block.Seq, Kids: kids}
	wantErr(t, "blocks in themselves", process(t), kids[1], api.ErrLong)
	l := make([]api.Term, 1)
	l[0] = api.Term{Op: api.OpNeg, Kids: l}
	n := process(t)
	n.Nodes[10].Term = l[0]
	wantErr(t, "a term in itself", n, sample.Block("10"), api.ErrArg)
	wantErr(t, "no node", process(t), block.Block{Kind: block.Leaf, Node: -1 << 63}, api.ErrForm)
	wantErr(t, "no gate", process(t), block.Block{Kind: block.Gate, Node: 1<<63 - 1}, api.ErrForm)
}
