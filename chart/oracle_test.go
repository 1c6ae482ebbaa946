package chart_test

import (
	"fmt"
	"regexp"
	"strconv"
	"testing"

	"treenail/api"
	"treenail/chart"
	"treenail/mark"
	"treenail/term"
	"treenail/tree"
)

const digits = `(0|[1-9][0-9]*)`

// A kid's text, as the document has it: a node's, or a flow's.
var (
	nodes = regexp.MustCompile(`^<(?:start|end|xor|and|event|catch|task var="` + digits + `"|assign var="` + digits + `" value="(.*)"|catch message="` + digits + `")/>$`)
	flows = regexp.MustCompile(`^<flow from="` + digits + `" to="` + digits + `"(?: else="yes"|( if)="([^"]*)")?/>$`)
)

var kindNames = []string{"", "start", "end", "task", "assign", "xor", "and", "event", "catch"}

// nodeText is a node's text, put together by hand.
func nodeText(x api.Node) string {
	value, _ := term.Text(x.Term)
	switch x.Kind {
	case api.Task:
		return fmt.Sprintf(`<task var="%d"/>`, x.A)
	case api.Assign:
		return fmt.Sprintf(`<assign var="%d" value="%s"/>`, x.A, value)
	case api.Catch:
		if x.A != 4 {
			return fmt.Sprintf(`<catch message="%d"/>`, x.A)
		}
	}
	return "<" + kindNames[x.Kind] + "/>"
}

func flowText(f api.Flow) string {
	value, err := term.Text(f.Cond)
	switch {
	case f.Else:
		return fmt.Sprintf(`<flow from="%d" to="%d" else="yes"/>`, f.From, f.To)
	case err == api.OK:
		return fmt.Sprintf(`<flow from="%d" to="%d" if="%s"/>`, f.From, f.To, value)
	}
	return fmt.Sprintf(`<flow from="%d" to="%d"/>`, f.From, f.To)
}

func isTerm(s string) bool {
	_, err := term.Parse(s)
	return err == api.OK
}

// expected tells whether a text is a node's, and whether it is a flow's.
func expected(s string) (bool, bool) {
	if m := nodes.FindStringSubmatch(s); m != nil {
		return m[4] != "4" && (m[2] == "" || isTerm(m[3])), false
	}
	m := flows.FindStringSubmatch(s)
	return false, m != nil && (m[3] == "" || isTerm(m[4]))
}

// 6.2: all kids of a process with up to three attributes of these.
func TestAllKids(t *testing.T) {
	var attrs []mark.Attr
	for _, name := range []string{"var", "value", "message", "from", "to", "else", "if"} {
		for _, value := range []string{"3", "4", "03", "(lt 1 2)", "yes"} {
			attrs = append(attrs, mark.Attr{Name: name, Value: value})
		}
	}
	lists := [][]mark.Attr{nil}
	for i := 0; i < len(lists); i++ {
		if len(lists[i]) == 3 {
			continue
		}
		for _, a := range attrs {
			if _, has := tree.Get(tree.Elem{Attrs: lists[i]}, a.Name); !has {
				lists = append(lists, append(lists[i][:len(lists[i]):len(lists[i])], a))
			}
		}
	}
	seen := map[string]int{}
	for _, name := range append(kindNames[1:], "flow", "node") {
		for _, l := range lists {
			kid := tree.Elem{Name: name, Attrs: l}
			s, err := tree.Write(kid)
			if err != api.OK {
				t.Fatalf("%v: %v", kid, err)
			}
			isNode, isFlow := expected(s)
			n, why := chart.Net(tree.Elem{Name: "process", Kids: []tree.Elem{kid}})
			right := len(n.Nodes)+len(n.Flows) == 0 && why == 2
			if isNode {
				right = len(n.Nodes) == 1 && len(n.Flows) == 0 && why == 0 && nodeText(n.Nodes[0]) == s
			}
			if isFlow {
				right = len(n.Nodes) == 0 && len(n.Flows) == 1 && why == 0 && flowText(n.Flows[0]) == s
			}
			if !right {
				t.Fatalf("Net of %s: %v, %d", s, n, why)
			}
			if isNode || isFlow {
				seen[name]++
			}
		}
	}
	want := map[string]int{"start": 1, "end": 1, "task": 2, "assign": 6, "xor": 1, "and": 1, "event": 1, "catch": 2, "flow": 4 + 4 + 4*3}
	if fmt.Sprint(seen) != fmt.Sprint(want) {
		t.Errorf("right kids: %v; want %v", seen, want)
	}
}

// 6.2: places of the first wrong kid, wherever it stands, and of a node behind a flow.
func TestFirstPlace(t *testing.T) {
	kinds := map[byte]tree.Elem{
		'n': {Name: "task", Attrs: []mark.Attr{{Name: "var", Value: "1"}}},
		'f': {Name: "flow", Attrs: []mark.Attr{{Name: "from", Value: "0"}, {Name: "to", Value: "1"}}},
		'x': {Name: "task"},
	}
	right := regexp.MustCompile("^n*f*$")
	for code := range 3 * 3 * 3 * 3 * 3 * 3 {
		s := ""
		e := tree.Elem{Name: "process"}
		for _, c := range fmt.Sprintf("%06s", strconv.FormatInt(int64(code), 3)) {
			s += string("nfx"[c-'0'])
			e.Kids = append(e.Kids, kinds["nfx"[c-'0']])
		}
		want := 0
		for want < len(s) && right.MatchString(s[:want+1]) {
			want++
		}
		if want == len(s) {
			want = -2
		}
		if n, why := chart.Net(e); why != want+2 || why != 0 && len(n.Nodes)+len(n.Flows) > 0 {
			t.Errorf("Net of %s: %v, %d; want %d", s, n, why, want+2)
		}
	}
}
