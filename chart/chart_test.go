package chart_test

import (
	"math/rand"
	"reflect"
	"strconv"
	"strings"
	"testing"

	"treenail/api"
	"treenail/chart"
	"treenail/mark"
	"treenail/net"
	"treenail/sample"
	"treenail/term"
	"treenail/tree"
)

const all = `<process><start/><xor/><task var="3"/><assign var="2" value="(add $1 1)"/><xor/><and/><event/><catch message="3"/><catch/><xor/><and/><end/>` +
	`<flow from="0" to="1"/><flow from="1" to="2" if="(lt $1 2)"/><flow from="1" to="3" else="yes"/><flow from="2" to="4"/><flow from="3" to="4"/>` +
	`<flow from="4" to="5"/><flow from="5" to="6"/><flow from="6" to="7"/><flow from="6" to="8"/><flow from="7" to="9"/><flow from="8" to="9"/>` +
	`<flow from="9" to="10"/><flow from="5" to="10"/><flow from="10" to="11"/></process>`

func parsed(t *testing.T, s string) api.Term {
	t.Helper()
	x, err := term.Parse(s)
	if err != api.OK {
		t.Fatalf("%q is no term", s)
	}
	return x
}

// allNet is the process of the text above.
func allNet(t *testing.T) api.Net {
	n := api.Net{
		Nodes: []api.Node{
			{Kind: api.Start}, {Kind: api.Xor}, {Kind: api.Task, A: 3}, {Kind: api.Assign, A: 2, Term: parsed(t, "(add $1 1)")}, {Kind: api.Xor}, {Kind: api.And},
			{Kind: api.Event}, {Kind: api.Catch, A: 3}, {Kind: api.Catch, A: api.Msgs}, {Kind: api.Xor}, {Kind: api.And}, {Kind: api.End},
		},
		Flows: []api.Flow{{From: 0, To: 1}, {From: 1, To: 2, Cond: parsed(t, "(lt $1 2)")}, {From: 1, To: 3, Else: true}},
	}
	for _, f := range [][2]int{{2, 4}, {3, 4}, {4, 5}, {5, 6}, {6, 7}, {6, 8}, {7, 9}, {8, 9}, {9, 10}, {5, 10}, {10, 11}} {
		n.Flows = append(n.Flows, api.Flow{From: f[0], To: f[1]})
	}
	return n
}

// assigns is a process of assignments, one behind the other.
func assigns(terms ...api.Term) api.Net {
	n := api.Net{Nodes: []api.Node{{Kind: api.Start}}}
	for i, x := range terms {
		n.Nodes = append(n.Nodes, api.Node{Kind: api.Assign, Term: x})
		n.Flows = append(n.Flows, api.Flow{From: i, To: i + 1})
	}
	n.Nodes = append(n.Nodes, api.Node{Kind: api.End})
	n.Flows = append(n.Flows, api.Flow{From: len(terms), To: len(terms) + 1})
	return n
}

// leafy is a term of 2^(levels - 1) numbers, each of one digit, and up to 11 more of the extra ones while there are any.
func leafy(levels int, extra *int) api.Term {
	if levels > 1 {
		return api.Term{Op: api.OpAdd, Kids: []api.Term{leafy(levels-1, extra), leafy(levels-1, extra)}}
	}
	digits := min(*extra, 11)
	*extra -= digits
	n, _ := strconv.Atoi("7" + strings.Repeat("0", digits))
	return api.Term{Op: api.OpNum, N: n}
}

// sized is a process whose text has so many bytes, of which no term has more than MaxText.
func sized(t *testing.T, bytes int) api.Net {
	t.Helper()
	extra := 0
	n := assigns(leafy(10, &extra), leafy(10, &extra), leafy(10, &extra))
	extra = bytes - len(written(t, n))
	n = assigns(leafy(10, &extra), leafy(10, &extra), leafy(10, &extra))
	if extra != 0 {
		t.Fatalf("%d bytes too many", extra)
	}
	return n
}

// written is the text of a process that must be right.
func written(t *testing.T, n api.Net) string {
	t.Helper()
	s, err := chart.Write(n)
	if err != api.OK {
		t.Fatalf("Write: %v", err)
	}
	return s
}

func wantRead(t *testing.T, s string, place, reason int, want api.Errno) {
	t.Helper()
	n, at, why, err := chart.Read(s)
	if at != place || why != reason || err != want {
		t.Errorf("Read(%.80q): %d, %d, %v; want %d, %d, %v", s, at, why, err, place, reason, want)
	}
	if !reflect.DeepEqual(n, api.Net{}) {
		t.Errorf("Read(%.80q): a process beside %v", s, err)
	}
}

// 6.1, 6.2: all kinds of nodes and flows.
func TestAll(t *testing.T) {
	if s, err := chart.Write(allNet(t)); s != all || err != api.OK {
		t.Errorf("Write: %q, %v", s, err)
	}
	if n, at, why, err := chart.Read(all); err != api.OK || at != 0 || why != 0 || !reflect.DeepEqual(n, allNet(t)) {
		t.Errorf("Read: %v, %d, %d, %v", n, at, why, err)
	}
	want, _, _ := tree.Parse(all)
	e, err := chart.Elem(allNet(t))
	if err != api.OK || !reflect.DeepEqual(e, want) {
		t.Errorf("Elem: %v, %v", e, err)
	}
	if n, why := chart.Net(e); why != 0 || !reflect.DeepEqual(n, allNet(t)) {
		t.Errorf("Net: %v, %d", n, why)
	}
}

// 6.1: the chapter's example.
func TestExample(t *testing.T) {
	n := api.Net{Nodes: []api.Node{{Kind: api.Start}, {Kind: api.Task, A: 1}, {Kind: api.End}}, Flows: []api.Flow{{From: 0, To: 1}, {From: 1, To: 2}}}
	const want = `<process><start/><task var="1"/><end/><flow from="0" to="1"/><flow from="1" to="2"/></process>`
	if s := written(t, n); s != want {
		t.Errorf("Write: %q", s)
	}
	if m, _, _, _ := chart.Read(want); !reflect.DeepEqual(m, n) {
		t.Errorf("Read: %v", m)
	}
}

// 6.1: ErrForm of each rule, with nothing beside it.
func TestWrong(t *testing.T) {
	for rule, change := range map[int]func(n *api.Net){
		1: func(n *api.Net) { n.Nodes[2].A = api.Vars },
		2: func(n *api.Net) { n.Flows[3].Else = true },
		3: func(n *api.Net) { n.Flows = n.Flows[1:] },
		4: func(n *api.Net) {
			n.Nodes = append(n.Nodes, api.Node{Kind: api.Task}, api.Node{Kind: api.Task})
			n.Flows = append(n.Flows, api.Flow{From: 12, To: 13}, api.Flow{From: 13, To: 12})
		},
	} {
		n := allNet(t)
		change(&n)
		if got, _ := net.Check(n); got != rule {
			t.Fatalf("rule %d is broken; want %d", got, rule)
		}
		if s, err := chart.Write(n); s != "" || err != api.ErrForm {
			t.Errorf("Write of a process that breaks rule %d: %q, %v", rule, s, err)
		}
		if e, err := chart.Elem(n); !reflect.DeepEqual(e, tree.Elem{}) || err != api.ErrForm {
			t.Errorf("Elem of a process that breaks rule %d: %v, %v", rule, e, err)
		}
	}
	if e, err := chart.Elem(api.Net{}); !reflect.DeepEqual(e, tree.Elem{}) || err != api.ErrForm {
		t.Errorf("Elem of nothing: %v, %v", e, err)
	}
}

// 6.1: MaxText bytes of a text, and one more.
func TestFull(t *testing.T) {
	n := sized(t, api.MaxText)
	s := written(t, n)
	if len(s) != api.MaxText {
		t.Fatalf("Write: %d bytes", len(s))
	}
	if m, _, _, err := chart.Read(s); err != api.OK || !reflect.DeepEqual(m, n) {
		t.Errorf("Read of MaxText bytes: %v", err)
	}
	n = sized(t, api.MaxText+1)
	if s, err := chart.Write(n); s != "" || err != api.ErrFull {
		t.Errorf("Write of a byte more: %d bytes, %v", len(s), err)
	}
	if e, err := chart.Elem(n); err != api.OK || tree.Check(e) != api.ErrFull {
		t.Errorf("Elem of a byte more: %v", err)
	}
}

// 6.1: as many nodes and flows as there may be.
func TestMost(t *testing.T) {
	n := api.Net{Nodes: []api.Node{{Kind: api.Start}, {Kind: api.And}, {Kind: api.And}, {Kind: api.End}}, Flows: []api.Flow{{From: 0, To: 1}, {From: 2, To: 3}}}
	for i := 4; i < api.MaxNodes; i++ {
		n.Nodes = append(n.Nodes, api.Node{Kind: api.Catch, A: i % 5})
		from, to := 1, 2
		// The last three stand one behind the other.
		if i > 21 {
			from = i - 1
		}
		if i == 21 || i == 22 {
			to = i + 1
		}
		n.Flows = append(n.Flows, api.Flow{From: from, To: i})
		if to == 2 {
			n.Flows = append(n.Flows, api.Flow{From: i, To: to})
		}
	}
	if len(n.Nodes)+len(n.Flows) != api.MaxKids {
		t.Fatalf("%d nodes, %d flows", len(n.Nodes), len(n.Flows))
	}
	if m, at, why, err := chart.Read(written(t, n)); err != api.OK || at != 0 || why != 0 || !reflect.DeepEqual(m, n) {
		t.Errorf("Read: %v, %d, %d, %v", m, at, why, err)
	}
}

// 6.1, 6.2: an element has the text of a term that is longer than MaxText, and is read again; its text cannot be written.
func TestLongTerm(t *testing.T) {
	for _, levels := range []int{13, 16} {
		extra := 5000
		n := assigns(leafy(levels, &extra))
		if _, err := term.Text(n.Nodes[1].Term); err != api.ErrFull {
			t.Fatalf("the term's text: %v", err)
		}
		e, err := chart.Elem(n)
		if err != api.OK {
			t.Fatalf("Elem: %v", err)
		}
		value, _ := tree.Get(e.Kids[1], "value")
		if len(value) != 5000+1<<(levels-1)*8-7 || strings.Trim(value, "(add )70") != "" {
			t.Errorf("the term's text has %d bytes", len(value))
		}
		if m, why := chart.Net(e); why != 0 || !reflect.DeepEqual(m, n) {
			t.Errorf("Net: %d", why)
		}
		if s, err := chart.Write(n); s != "" || err != api.ErrFull {
			t.Errorf("Write: %d bytes, %v", len(s), err)
		}
	}
}

// 6.2: texts longer than MaxText that are no term's.
func TestLongWrong(t *testing.T) {
	extra := 12000
	half, _ := term.Text(leafy(11, &extra))
	deep := func(levels int) string { return strings.Repeat("(neg ", levels) + half + strings.Repeat(")", levels) }
	for value, want := range map[string]int{
		"(add " + half + " " + half + ")":                             0,
		"(add (neg " + half + ") (mul " + half + " " + half + "))":    0,
		"(not (and " + half + " " + half + "))":                       0,
		"(sub " + deep(12) + " " + deep(12) + ")":                     0,
		"(sub " + deep(12) + " " + deep(13) + ")":                     2,
		"(add " + half + " " + half:                                   2,
		"(add (add " + half + " " + half + ") 7)":                     0,
		"(add (add " + half + " " + half + ") 7":                      2,
		"(add (add " + half + " " + half + ") 7))":                    2,
		"(add " + half + " " + half + "))":                            2,
		"(add " + half + " " + half + ") ":                            2,
		" (add " + half + " " + half + ")":                            2,
		"(add  " + half + " " + half + ")":                            2,
		"(add " + half + "  " + half + ")":                            2,
		"(add " + half + " " + half + " )":                            2,
		"(add " + half + half + ")":                                   2,
		"(add " + half + " " + half + " " + half + ")":                2,
		"(neg " + half + " " + half + ")":                             2,
		"(plus " + half + " " + half + ")":                            2,
		"(" + half + " " + half + ")":                                 2,
		"((add " + half + " " + half + "))":                           2,
		"add " + half + " " + half + ")":                              2,
		half + " " + half:                                             2,
		"(add " + half + ") " + half + ")":                            2,
		"(add " + half[:len(half)-1] + "x) " + half + ")":             2,
		"(add " + half + " " + strings.Repeat("9", api.MaxText) + ")": 2,
		strings.Repeat("9", api.MaxText+1):                            2,
		strings.Repeat("(", api.MaxText+1):                            2,
		strings.Repeat(")", api.MaxText+1):                            2,
		strings.Repeat(" ", api.MaxText+1):                            2,
		strings.Repeat("(neg ", 1000000):                              2,
		deep(1000000):                                                 2,
	} {
		assign := tree.Elem{Name: "assign", Attrs: []mark.Attr{{Name: "var", Value: "0"}, {Name: "value", Value: value}}}
		n, why := chart.Net(tree.Elem{Name: "process", Kids: []tree.Elem{assign}})
		if why != want || (why == 0) != (len(n.Nodes) == 1) {
			t.Errorf("Net of %.20q.., %d bytes: %d; want %d", value, len(value), why, want)
		}
		if want == 0 && term.Size(n.Nodes[0].Term) != strings.Count(value, "(")+strings.Count(value, "7") {
			t.Errorf("Net of %.20q..: %d terms", value, term.Size(n.Nodes[0].Term))
		}
	}
}

// 6.2: elements that are no process's at all, whatever their kids are.
func TestNone(t *testing.T) {
	start := []tree.Elem{{Name: "start"}}
	for what, e := range map[string]tree.Elem{
		"nothing":                       {},
		"another name":                  {Name: "start"},
		"a greater name":                {Name: "processes", Kids: start},
		"a capital":                     {Name: "Process", Kids: start},
		"an attribute":                  {Name: "process", Attrs: []mark.Attr{{Name: "a"}}, Kids: start},
		"a text":                        {Name: "process", Text: " "},
		"a text beside a kid":           {Name: "process", Text: "\n", Kids: start},
		"an attribute and a wrong kid":  {Name: "process", Attrs: []mark.Attr{{}}, Kids: []tree.Elem{{}}},
		"a process in another element":  {Name: "a", Kids: []tree.Elem{{Name: "process"}}},
		"another name and a wrong kid":  {Name: "flow", Kids: []tree.Elem{{Name: "x"}}},
		"a flow where a process should": {Name: "flow", Attrs: []mark.Attr{{Name: "from", Value: "0"}, {Name: "to", Value: "1"}}},
	} {
		if n, why := chart.Net(e); why != 1 || !reflect.DeepEqual(n, api.Net{}) {
			t.Errorf("Net of %s: %v, %d; want 1", what, n, why)
		}
	}
	if n, why := chart.Net(tree.Elem{Name: "process", Attrs: []mark.Attr{}, Kids: []tree.Elem{}}); why != 0 || !reflect.DeepEqual(n, api.Net{}) {
		t.Errorf("Net of a process without nodes: %v, %d", n, why)
	}
}

// 6.2: kids that are no node's and no flow's element, and the first place.
func TestKids(t *testing.T) {
	for _, kid := range []string{
		"<y/>", "<process/>", "<starts/>", "<flows/>", `<start a=""/>`, `<start var="0"/>`, "<start>x</start>", "<start><start/></start>", "<start> </start>",
		`<end var="0"/>`, `<xor if="(lt 1 2)"/>`, `<and else="yes"/>`, `<event message="0"/>`, "<event><catch/></event>",
		"<task/>", `<task var=""/>`, `<task var="00"/>`, `<task var="01"/>`, `<task var="-1"/>`, `<task var="-0"/>`, `<task var="+1"/>`, `<task var=" 1"/>`, `<task var="1 "/>`,
		`<task var="1x"/>`, `<task var="0x1"/>`, `<task var="1_0"/>`, `<task var="a"/>`, `<task var="9223372036854775808"/>`, `<task var="99999999999999999999999"/>`,
		`<task message="1"/>`, `<task value="1"/>`, `<task var="1" value="1"/>`, `<task a="1" var="1"/>`, `<task var="1">x</task>`, `<task var="1"><end/></task>`,
		"<assign/>", `<assign var="1"/>`, `<assign value="1"/>`, `<assign value="1" var="1"/>`, `<assign var="1" value=""/>`, `<assign var="1" value="01"/>`, `<assign var="01" value="1"/>`,
		`<assign var="1" value="$4"/>`, `<assign var="1" value=" 1"/>`, `<assign var="1" value="1 "/>`, `<assign var="1" value="(add 1)"/>`, `<assign var="1" value="1" a="1"/>`,
		`<assign var="1" value="1">x</assign>`, `<assign var="1" term="1"/>`, `<assign var="1" value="1099511627777"/>`,
		`<catch message=""/>`, `<catch message="4"/>`, `<catch message="03"/>`, `<catch message="-1"/>`, `<catch var="1"/>`, `<catch message="1" a=""/>`, `<catch a="" message="1"/>`,
		"<catch>x</catch>", "<catch><end/></catch>", `<catch timer="4"/>`,
		"<flow/>", `<flow from="0"/>`, `<flow to="0"/>`, `<flow to="0" from="1"/>`, `<flow from="" to="1"/>`, `<flow from="0" to=""/>`, `<flow from="00" to="1"/>`, `<flow from="0" to="01"/>`,
		`<flow from="-1" to="1"/>`, `<flow from="0" to="-1"/>`, `<flow from="0" to="1" else=""/>`, `<flow from="0" to="1" else="no"/>`, `<flow from="0" to="1" else="Yes"/>`, `<flow from="0" to="1" else="yes "/>`,
		`<flow from="0" to="1" if=""/>`, `<flow from="0" to="1" if="yes"/>`, `<flow from="0" to="1" if="(lt 1)"/>`, `<flow from="0" to="1" else="yes" if="(lt 1 2)"/>`, `<flow from="0" to="1" if="(lt 1 2)" else="yes"/>`,
		`<flow else="yes" from="0" to="1"/>`, `<flow from="0" else="yes" to="1"/>`, `<flow if="(lt 1 2)" from="0" to="1"/>`, `<flow from="0" to="1" a="1"/>`, `<flow from="0" a="1" to="1"/>`,
		`<flow from="0" to="1">x</flow>`, `<flow from="0" to="1"><start/></flow>`, `<flow from="9223372036854775808" to="1"/>`,
	} {
		wantRead(t, "<process>"+kid+"</process>", 0, 2, api.ErrForm)
		wantRead(t, "<process><start/><end/>"+kid+"<y/></process>", 0, 4, api.ErrForm)
		wantRead(t, `<process><start/><flow from="0" to="1"/>`+kid+"</process>", 0, 4, api.ErrForm)
	}
	for _, kid := range []string{"<start/>", "<end/>", `<task var="1"/>`, `<assign var="1" value="1"/>`, "<xor/>", "<and/>", "<event/>", "<catch/>", `<catch message="1"/>`} {
		wantRead(t, `<process><start/><flow from="0" to="1"/>`+kid+"<y/></process>", 0, 4, api.ErrForm)
	}
}

// 6.2: whether the process is right is not asked by Net, but by Read, which tells the rule.
func TestNotRight(t *testing.T) {
	many := strings.Repeat("<start/>", api.MaxNodes+1)
	for s, want := range map[string]int{
		"": -3, "<start/>": -3, "<end/><start/>": -3, many: -1,
		`<task var="4"/>`: -1, `<task var="9223372036854775807"/>`: -1, `<assign var="4" value="1"/>`: -1, `<assign var="1" value="(lt 1 2)"/>`: -1,
		`<assign var="0" value="(neg (lt 1 2))"/>`: -1, `<catch message="5"/>`: -1, `<catch message="9223372036854775807"/>`: -1,
		`<flow from="0" to="1"/>`: -2, `<start/><end/><flow from="0" to="9223372036854775807"/>`: -2, `<start/><end/><flow from="1" to="1"/>`: -2,
		`<start/><end/><flow from="0" to="1" else="yes"/>`: -2, `<start/><end/><flow from="0" to="1" if="(lt 1 2)"/>`: -2, `<start/><end/><flow from="0" to="1" if="7"/>`: -2,
		`<start/><end/><flow from="1" to="0"/>`: -3, `<start/><end/>`: -3,
		`<start/><end/><task var="0"/><task var="1"/><flow from="0" to="1"/><flow from="2" to="3"/><flow from="3" to="2"/>`: -4,
	} {
		wantRead(t, "<process>"+s+"</process>", 0, want, api.ErrForm)
		e, _, err := tree.Parse("<process>" + s + "</process>")
		if err != api.OK {
			t.Fatalf("%q: %v", s, err)
		}
		n, why := chart.Net(e)
		if rule, _ := net.Check(n); why != 0 || rule != -want || len(n.Nodes)+len(n.Flows) != len(e.Kids) {
			t.Errorf("Net of %q: %v, %d", s, n, why)
		}
	}
	e := tree.Elem{Name: "process", Kids: make([]tree.Elem, 100)}
	for i := range e.Kids {
		e.Kids[i].Name = "and"
	}
	if n, why := chart.Net(e); why != 0 || len(n.Nodes) != 100 {
		t.Errorf("Net of 100 nodes: %d nodes, %d", len(n.Nodes), why)
	}
}

// 6.2: what tree.Parse says, and its place.
func TestParse(t *testing.T) {
	wantRead(t, strings.Repeat("x", api.MaxText+1), 0, 0, api.ErrLong)
	for s, place := range map[string]int{"": 0, "x": 0, "<process>": 9, "<process><start>": 16, "<process/>\n": 10, "<process>\n<start/></process>": 10, "<process><start/></x>": 17, "<process><Start/></process>": 9} {
		wantRead(t, s, place, 0, api.ErrForm)
	}
	wantRead(t, "<process>"+strings.Repeat("<y/>", api.MaxKids+1)+"</process>", 9+4*api.MaxKids, 0, api.ErrLong)
	wantRead(t, "<x/>", 0, 1, api.ErrForm)
	wantRead(t, "<x><y/></x>", 0, 1, api.ErrForm)
}

// 6.3: what was written is read; the same, written otherwise, is read as the same, and written as it was.
func TestWrittenIsRead(t *testing.T) {
	r := rand.New(rand.NewSource(6))
	for range 2000 {
		n := sample.Net(r.Intn)
		s := written(t, n)
		other := s
		for _, name := range []string{"start", "end", "xor", "and", "event", "catch"} {
			other = strings.ReplaceAll(other, "<"+name+"/>", "<"+name+"></"+name+">")
		}
		for _, s := range []string{s, strings.ReplaceAll(s, "\"/></process>", "\"></flow></process>"), other} {
			m, at, why, err := chart.Read(s)
			if err != api.OK || at != 0 || why != 0 || !reflect.DeepEqual(m, n) {
				t.Fatalf("Read(%q): %v, %d, %d, %v; want %v", s, m, at, why, err, n)
			}
		}
	}
}

// R3, R6: what is handed in is not changed and not kept; no two lists of an answer share memory.
func TestMemory(t *testing.T) {
	n := allNet(t)
	e, _ := chart.Elem(n)
	for i := range e.Kids {
		e.Kids[i].Attrs = append(e.Kids[i].Attrs, mark.Attr{Name: "a"}, mark.Attr{Name: "b"})
		e.Kids[i].Kids = append(e.Kids[i].Kids, tree.Elem{Name: "c"})
	}
	e.Kids = append(e.Kids, tree.Elem{Name: "d"})
	s, err := tree.Write(e)
	if strings.Count(s, ` a="" b=""><c/>`) != len(e.Kids)-1 || err != api.OK || !reflect.DeepEqual(n, allNet(t)) {
		t.Errorf("Elem shares memory: %q", s)
	}
	e, _, _ = tree.Parse(all)
	m, _ := chart.Net(e)
	for i := range m.Nodes {
		m.Nodes[i].Term.Kids = append(m.Nodes[i].Term.Kids, api.Term{Op: 99})
	}
	m.Flows = append(m.Flows, api.Flow{})
	m.Nodes = append(m.Nodes, api.Node{})
	if again, _ := chart.Net(e); !reflect.DeepEqual(again, allNet(t)) {
		t.Errorf("Net shares memory: %v", again)
	}
	room := []tree.Elem{{Name: "start"}, {Name: "spare"}}
	chart.Net(tree.Elem{Name: "process", Kids: room[:1]})
	if room[0].Name != "start" || room[1].Name != "spare" {
		t.Errorf("%v", room)
	}
}

// P3: calls end at anything.
func TestEnds(t *testing.T) {
	kids := make([]tree.Elem, 2)
	for i := range kids {
		kids[i] = tree.Elem{Name: "process", Kids: kids}
	}
	if _, why := chart.Net(kids[0]); why != 2 {
		t.Errorf("Net of a process in itself: %d", why)
	}
	l := make([]api.Term, 2)
	l[0], l[1] = api.Term{Op: api.OpAdd, Kids: l}, api.Term{Op: api.OpAdd, Kids: l}
	if _, err := chart.Write(assigns(l[0])); err != api.ErrForm {
		t.Errorf("Write of a term in itself: %v", err)
	}
	for _, s := range []string{strings.Repeat("<process>", 2000), "<process>" + strings.Repeat("<start/>", 64), strings.Repeat("</process>", 2000), "<process>\x00</process>", "\xff"} {
		if _, _, _, err := chart.Read(s); err == api.OK {
			t.Errorf("Read(%.20q): OK", s)
		}
	}
}
