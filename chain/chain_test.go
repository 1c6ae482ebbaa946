package chain_test

import (
	"reflect"
	"slices"
	"strings"
	"testing"

	"treenail/api"
	"treenail/bpel"
	"treenail/chain"
	"treenail/chart"
	"treenail/page"
	"treenail/plan"
	"treenail/sample"
	"treenail/tree"
)

// written is the document of a process that must be right.
func written(t *testing.T, n api.Net) string {
	t.Helper()
	s, err := chart.Write(n)
	if err != api.OK {
		t.Fatalf("%v: %v", n, err)
	}
	return s
}

// wantProgram asks for the program of a document, and for its plan.
func wantProgram(t *testing.T, s, want string, kind int) {
	t.Helper()
	if got, l := chain.Compile(s); got != want || len(l) != 0 {
		t.Errorf("Compile(%.80q): %s, %v; want %s", s, got, l, want)
	}
	if k := chain.Kind(s); k != kind {
		t.Errorf("Kind(%.80q): %d; want %d", s, k, kind)
	}
}

// wantReports asks for the reports of a document of which no process can be made.
func wantReports(t *testing.T, s string, want ...chain.Report) {
	t.Helper()
	if got, l := chain.Compile(s); got != "" || !slices.Equal(l, want) {
		t.Errorf("Compile(%.80q): %q, %v; want %v", s, got, l, want)
	}
	if n, l := chain.Net(s); !reflect.DeepEqual(n, api.Net{}) || !slices.Equal(l, want) {
		t.Errorf("Net(%.80q): %v, %v; want %v", s, n, l, want)
	}
	if k := chain.Kind(s); k != 0 {
		t.Errorf("Kind(%.80q): %d", s, k)
	}
}

// at are the reports of a part and a code at places.
func at(part, code int, places ...int) []chain.Report {
	var l []chain.Report
	for _, p := range places {
		l = append(l, chain.Report{Part: part, Place: p, Code: code})
	}
	return l
}

// 25.1: the chapter's example.
func TestExample(t *testing.T) {
	wantReports(t, "<process/>", chain.Report{Part: 2, Place: 0, Code: 3})
}

// 25.1: the examples of the whole, compiled.
func TestWhole(t *testing.T) {
	for _, c := range []struct {
		nodes, flows string
		kind         int
		want         string
	}{
		{"se", "0-1", plan.Whole, "<empty/>"},
		{"ste", "0-1 1-2", plan.Whole, `<invoke node="1" var="0"/>`},
		{"satmce", "0-1 1-2 2-3 3-4 4-5", plan.Whole, `<sequence><assign node="1" var="0" value="0"/><invoke node="2" var="0"/><receive node="3" message="0"/><wait node="4"/></sequence>`},
		{"sxtxe", "0-1 1-2 1-3 2-3 3-4", plan.Whole, `<if node="1" else="1" c0="(eq $0 1)"><invoke node="2" var="0"/><empty/></if>`},
		{"snttne", "0-1 1-2 1-3 2-4 3-4 4-5", plan.Whole, `<flow><invoke node="2" var="0"/><invoke node="3" var="0"/></flow>`},
		{"sxtxe", "0-1 1-2 2-3 3-1 3-4", plan.Whole, `<loop node="3" else="1" leaves="1" c0="(eq $0 3)"><invoke node="2" var="0"/><empty/></loop>`},
		{"svmcxe", "0-1 1-2 1-3 2-4 3-4 4-5", plan.Whole, `<pick node="1"><on node="2" message="0"><empty/></on><on node="3"><empty/></on></pick>`},
		{"snnttnne", "0-1 1-2 1-5 2-3 2-6 3-5 5-4 4-6 6-7", plan.Linked, `<web><gate node="1" kind="1"/><gate node="2" kind="1"/><invoke node="3" var="0"/><invoke node="4" var="0"/>` +
			`<gate node="5" kind="2"/><gate node="6" kind="2"/><link to="0"/><link from="0" to="1"/><link from="0" to="4"/><link from="1" to="2"/><link from="1" to="5"/>` +
			`<link from="2" to="4"/><link from="4" to="3"/><link from="3" to="5"/><link from="5"/></web>`},
		{"sntxe", "0-1 1-2 1-3 2-3 3-4", plan.Ruled, `<rules><process><start/><and/><task var="0"/><xor/><end/><flow from="0" to="1"/><flow from="1" to="2"/><flow from="1" to="3"/>` +
			`<flow from="2" to="3"/><flow from="3" to="4"/></process></rules>`},
		// An Event is left, of which no gate can be made.
		{"svmcne", "0-1 1-2 1-3 2-4 3-4 4-5", plan.Ruled, `<rules><process><start/><event/><catch message="0"/><catch/><and/><end/><flow from="0" to="1"/><flow from="1" to="2"/><flow from="1" to="3"/>` +
			`<flow from="2" to="4"/><flow from="3" to="4"/><flow from="4" to="5"/></process></rules>`},
	} {
		n := sample.Of(c.nodes, c.flows)
		wantProgram(t, written(t, n), c.want, c.kind)
		a, l := chain.Program(n)
		if s, err := page.Write(a); s != c.want || err != api.OK || len(l) != 0 {
			t.Errorf("Program of %s %s: %s, %v, %v", c.nodes, c.flows, s, err, l)
		}
		if m, l := chain.Net(written(t, n)); !reflect.DeepEqual(m, n) || len(l) != 0 {
			t.Errorf("Net of %s %s: %v, %v", c.nodes, c.flows, m, l)
		}
	}
}

// 25.1: a document is compiled as it is meant, however it is written.
func TestWrittenOtherwise(t *testing.T) {
	wantProgram(t, `<process><start></start><task var="3"></task><end/><flow from="0" to="1"></flow><flow from="1" to="2"/></process>`, `<invoke node="1" var="3"/>`, plan.Whole)
	wantProgram(t, `<process><end/><task var="3"/><start/><flow from="1" to="0"/><flow from="2" to="1"/></process>`, `<invoke node="1" var="3"/>`, plan.Whole)
}

// 25.1: of the document, what tree.Parse tells, and where.
func TestNoElement(t *testing.T) {
	for s, place := range map[string]int{
		"": 0, "x": 0, "<process": 0, "<process>": 9, "<process><start/>": 17, "<process/>\n": 10, "<process>\n<start/></process>": 10, "<process><start/></x>": 17,
		"<process><Start/></process>": 9, "<process/><process/>": 10, "<process>\xff</process>": 9, "<process><start/>x</process>": 17, `<process a="1" a="2"/>`: 0,
		// Where something else is wrong ahead of it, too.
		"<x><y/></z>": 7, "<process><y/>&</process>": 13,
	} {
		wantReports(t, s, chain.Report{Part: 1, Place: place, Code: int(api.ErrForm)})
	}
	long := chain.Report{Part: 1, Code: int(api.ErrLong)}
	wantReports(t, strings.Repeat("x", api.MaxText+1), long)
	wantReports(t, "<process>"+strings.Repeat("x", api.MaxText)+"</process>", long)
	long.Place = 9 + 8*api.MaxKids
	wantReports(t, "<process>"+strings.Repeat("<start/>", api.MaxKids+1)+"</process>", long)
	long.Place = 9 * api.MaxDepth
	wantReports(t, strings.Repeat("<process>", api.MaxDepth+1)+strings.Repeat("</process>", api.MaxDepth+1), long)
}

// 25.1: of the document, that it is no process's element, or the first kid that is none's.
func TestNoProcess(t *testing.T) {
	for _, s := range []string{"<x/>", "<start/>", "<processes/>", `<process a="1"/>`, `<process a="1"><y/></process>`, "<process>x</process>", "<x><y/></x>", "<rules><process/></rules>", "<empty/>"} {
		wantReports(t, s, chain.Report{Part: 1, Code: -1})
	}
	for inside, place := range map[string]int{
		"<x/>": 0, "<start/><x/>": 1, "<start/><end/><x/><y/>": 2, "<process/>": 0, "<start><end/></start>": 0, "<start/><end>x</end>": 1,
		`<start/><task/><end/>`: 1, `<task var="01"/>`: 0, `<catch message="4"/>`: 0, `<assign var="0" value="(add 1)"/>`: 0, `<start var="0"/>`: 0,
		`<start/><flow from="0"/>`: 1, `<flow to="0" from="1"/>`: 0, `<flow from="0" to="1" else="no"/>`: 0, `<flow from="0" to="1" if="x"/>`: 0,
		// A node behind a flow; and other kids that would break a rule.
		`<start/><flow from="0" to="1"/><end/>`: 2, `<task var="9"/><start/><start/><x/>`: 3,
		strings.Repeat("<start/>", api.MaxKids-1) + "<x/>": api.MaxKids - 1,
	} {
		wantReports(t, "<process>"+inside+"</process>", chain.Report{Part: 1, Place: place, Code: -2})
	}
}

// broken are processes that break a rule, by what is inside of their documents, and all reports of each.
func broken() map[string][]chain.Report {
	const line = `<start/><task var="0"/><end/><flow from="0" to="1"/><flow from="1" to="2"/>`
	flows := func(count int) string { return strings.Repeat(`<flow from="0" to="1"/>`, count) }
	return map[string][]chain.Report{
		// Rule 1: the nodes.
		`<task var="7"/><catch message="9"/>`: at(2, 1, 0, 1),
		`<start/><task var="4"/><end/><assign var="0" value="(lt 1 2)"/><assign var="4" value="1"/><task var="3"/>`: at(2, 1, 1, 3, 4),
		strings.Repeat("<start/>", api.MaxNodes+1):        at(2, 1, 0),
		strings.Repeat(`<task var="4"/>`, api.MaxNodes+1): at(2, 1, 0),
		"<start/><end/>" + flows(api.MaxFlows+1):          at(2, 1, 0),
		`<task var="4"/><flow from="9" to="9"/>`:          at(2, 1, 0),
		// Rule 2: the flows.
		`<flow from="0" to="1"/>`:                                  at(2, 2, 0),
		line + `<flow from="1" to="3"/><flow from="2" to="2"/>`:    at(2, 2, 2, 3),
		strings.Replace(line, `to="1"`, `to="1" else="yes"`, 1):    at(2, 2, 0),
		strings.Replace(line, `to="2"`, `to="2" if="(lt 1 2)"`, 1): at(2, 2, 1),
		`<start/><xor/><xor/><end/><flow from="0" to="1"/><flow from="1" to="2"/><flow from="1" to="2" if="1"/><flow from="1" to="2" else="yes"/><flow from="2" to="3"/>`: at(2, 2, 1, 2),
		// Rule 3: what leads to nodes, and from them, and that there is one Start, and one End.
		"":                                     at(2, 3, 0),
		"<start/>":                             at(2, 3, 0, 1),
		"<start/><end/>":                       at(2, 3, 0, 1),
		"<end/><end/>":                         at(2, 3, 0, 1, 2),
		strings.Repeat("<and/>", api.MaxNodes): at(2, 3, places(api.MaxNodes+1)...),
		"<start/><end/>" + flows(2):            at(2, 3, 0, 1),
		"<start/><end/>" + flows(api.MaxFlows): at(2, 3, 0, 1),
		`<start/><start/><and/><end/><flow from="0" to="2"/><flow from="1" to="2"/><flow from="2" to="3"/>`:                                                                                             at(2, 3, 1),
		`<start/><start/><start/><and/><end/><flow from="0" to="3"/><flow from="1" to="3"/><flow from="2" to="3"/><flow from="3" to="4"/>`:                                                              at(2, 3, 1, 2),
		`<start/><xor/><xor/><end/><flow from="0" to="1"/><flow from="1" to="2" else="yes"/><flow from="1" to="2" else="yes"/><flow from="2" to="3"/>`:                                                  at(2, 3, 1),
		`<start/><event/><task var="0"/><catch/><xor/><end/><flow from="0" to="1"/><flow from="1" to="2"/><flow from="1" to="3"/><flow from="2" to="4"/><flow from="3" to="4"/><flow from="4" to="5"/>`: at(2, 3, 1),
		// Rule 4: what is led to from nowhere, or leads nowhere.
		`<start/><task var="0"/><end/><task var="0"/><task var="0"/><flow from="0" to="1"/><flow from="1" to="2"/><flow from="3" to="4"/><flow from="4" to="3"/>`: at(2, 4, 3, 4),
	}
}

// places are the numbers from 0 on, so many.
func places(count int) []int {
	var l []int
	for i := range count {
		l = append(l, i)
	}
	return l
}

// 25.1: of the process, all places at which the first broken rule is.
func TestBroken(t *testing.T) {
	for inside, want := range broken() {
		s := "<process>" + inside + "</process>"
		wantReports(t, s, want...)
	}
}

// 25.1: of a process that is handed in, the same, with no program beside it.
func TestProgramBroken(t *testing.T) {
	for inside, want := range broken() {
		wantNoProgram(t, netOf(t, "<process>"+inside+"</process>"), want...)
	}
	wantNoProgram(t, api.Net{}, at(2, 3, 0)...)
	wantNoProgram(t, api.Net{Nodes: []api.Node{{}, {Kind: api.Start}, {Kind: 9}, {Kind: api.Xor, A: 1}}}, at(2, 1, 0, 2, 3)...)
	wantNoProgram(t, api.Net{Nodes: make([]api.Node, 10000), Flows: make([]api.Flow, 10000)}, at(2, 1, 0)...)
	n := sample.Of("sae", "0-1 1-2")
	round := make([]api.Term, 2)
	round[0], round[1] = api.Term{Op: api.OpAdd, Kids: round}, api.Term{Op: api.OpAdd, Kids: round}
	n.Nodes[1].Term = round[0]
	wantNoProgram(t, n, at(2, 1, 1)...)
}

func wantNoProgram(t *testing.T, n api.Net, want ...chain.Report) {
	t.Helper()
	if a, l := chain.Program(n); !reflect.DeepEqual(a, bpel.Act{}) || !slices.Equal(l, want) {
		t.Errorf("Program(%.200v): %v, %v; want %v", n, a, l, want)
	}
}

// number is a text of a number's term that has so many bytes.
func number(bytes int) string {
	if bytes <= 12 {
		return strings.Repeat("7", bytes)
	}
	rest := bytes - len("(add  )")
	return "(add " + number(rest/2) + " " + number(rest-rest/2) + ")"
}

// filled is the document of a process with Assigns, the first of which has a term so long that it has so many bytes.
func filled(t *testing.T, nodes, flows string, bytes int) string {
	t.Helper()
	s := written(t, sample.Of(nodes, flows))
	filled := strings.Replace(s, `value="0"`, `value="`+number(bytes-len(s)+1)+`"`, 1)
	if len(filled) != bytes {
		t.Fatalf("%d bytes; want %d", len(filled), bytes)
	}
	return filled
}

// 25.1: of the program's document, that it is too long; which plan the process has is told all the same.
func TestTooLong(t *testing.T) {
	for _, c := range []struct {
		nodes, flows string
		kind, more   int
	}{
		{"snaxe", "0-1 1-2 1-3 2-3 3-4", plan.Ruled, len("<rules></rules>")},
		{"snnaannae", "0-1 1-2 1-5 2-3 2-6 3-5 5-4 4-6 6-7 7-8", plan.Linked, 0},
	} {
		if c.more == 0 {
			small := filled(t, c.nodes, c.flows, 1000)
			text, _ := chain.Compile(small)
			c.more = len(text) - len(small)
		}
		if c.more < 1 {
			t.Fatalf("%s: the program has %d bytes more", c.nodes, c.more)
		}
		for _, over := range []int{-1, 0} {
			s := filled(t, c.nodes, c.flows, api.MaxText-c.more+over)
			text, l := chain.Compile(s)
			if _, at, err := page.Read(text); len(text) != api.MaxText+over || len(l) != 0 || at != 0 || err != api.OK || chain.Kind(s) != c.kind {
				t.Errorf("%s, %d bytes: %d bytes, %v, %v; plan %d", c.nodes, len(s), len(text), l, err, chain.Kind(s))
			}
		}
		for _, bytes := range []int{api.MaxText - c.more + 1, api.MaxText - 1, api.MaxText} {
			s := filled(t, c.nodes, c.flows, bytes)
			if text, l := chain.Compile(s); text != "" || !slices.Equal(l, at(4, int(api.ErrFull), 0)) {
				t.Errorf("%s, %d bytes: %d bytes, %v", c.nodes, bytes, len(text), l)
			}
			n, l := chain.Net(s)
			if len(n.Nodes) != len(c.nodes) || len(l) != 0 || chain.Kind(s) != c.kind {
				t.Errorf("%s, %d bytes: %v; plan %d", c.nodes, bytes, l, chain.Kind(s))
			}
			if a, l := chain.Program(n); bpel.Check(a) != api.OK || len(l) != 0 {
				t.Errorf("%s, %d bytes: %v", c.nodes, bytes, l)
			}
		}
		wantReports(t, filled(t, c.nodes, c.flows, api.MaxText+1), chain.Report{Part: 1, Code: int(api.ErrLong)})
	}
}

// netOf is the process of a document, right or not.
func netOf(t *testing.T, s string) api.Net {
	t.Helper()
	e, _, err := tree.Parse(s)
	n, why := chart.Net(e)
	if err != api.OK || why != 0 {
		t.Fatalf("%.80q: %v, %d", s, err, why)
	}
	return n
}

// R3, R6: what is handed in is left as it is, and not kept; the same is told again, in memory of its own.
func TestMemory(t *testing.T) {
	for _, s := range []string{
		`<process><start/><assign var="0" value="(neg (neg $1))"/><xor/><xor/><end/><flow from="0" to="1"/><flow from="1" to="2"/><flow from="2" to="3" if="(not (lt $1 (neg 2)))"/><flow from="2" to="3" else="yes"/><flow from="3" to="4"/></process>`,
		`<process><start/><and/><assign var="0" value="(neg (neg $1))"/><xor/><end/><flow from="0" to="1"/><flow from="1" to="2"/><flow from="1" to="3"/><flow from="2" to="3"/><flow from="3" to="4"/></process>`,
	} {
		want, _ := chain.Compile(s)
		n, _ := chain.Net(s)
		a, _ := chain.Program(n)
		spoil(n)
		if text, _ := page.Write(a); text != want {
			t.Errorf("%s was changed to %s", want, text)
		}
		n, _ = chain.Net(s)
		if written(t, n) != s {
			t.Errorf("%s was changed to %v", s, n)
		}
		spoilAct(a)
		again, _ := chain.Program(n)
		if text, _ := page.Write(again); text != want || written(t, n) != s {
			t.Errorf("%s, then %s", want, text)
		}
	}
	_, first := chain.Compile("<process><start/><end/></process>")
	_, second := chain.Compile("<process><start/><end/></process>")
	clear(first[:cap(first)])
	if !slices.Equal(second, at(2, 3, 0, 1)) {
		t.Errorf("%v", second)
	}
}

// spoil changes all that is in a process, spare room too.
func spoil(n api.Net) {
	for i := range n.Nodes {
		spoilTerm(&n.Nodes[i].Term)
	}
	for i := range n.Flows {
		spoilTerm(&n.Flows[i].Cond)
	}
	clear(n.Nodes[:cap(n.Nodes)])
	clear(n.Flows[:cap(n.Flows)])
}

func spoilTerm(x *api.Term) {
	for i := range x.Kids {
		spoilTerm(&x.Kids[i])
	}
	clear(x.Kids[:cap(x.Kids)])
}

func spoilAct(a bpel.Act) {
	for _, k := range a.Kids {
		spoilAct(k)
	}
	for i := range a.Conds {
		spoilTerm(&a.Conds[i])
	}
	spoilTerm(&a.Term)
	spoil(a.Net)
	clear(a.Kids[:cap(a.Kids)])
	clear(a.Conds[:cap(a.Conds)])
	clear(a.Links[:cap(a.Links)])
}
