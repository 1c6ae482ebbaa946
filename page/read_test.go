package page_test

import (
	"reflect"
	"regexp"
	"slices"
	"strings"
	"testing"

	"treenail/api"
	"treenail/bpel"
	"treenail/mark"
	"treenail/page"
	"treenail/tree"
)

func wantRead(t *testing.T, s string, place int, want api.Errno) {
	t.Helper()
	a, at, err := page.Read(s)
	if at != place || err != want {
		t.Errorf("Read(%.120q): %d, %v; want %d, %v", s, at, err, place, want)
	}
	if err != api.OK && !reflect.DeepEqual(a, bpel.Act{}) {
		t.Errorf("Read(%.120q): a program beside %v", s, err)
	}
}

// wrong are texts of elements that are no activities', each by itself.
func wrong() []string {
	l := []string{
		"<y/>", "<link/>", "<process/>", "<empties/>", "<on-message/>", "<start/>",
		`<empty a=""/>`, `<empty node="1"/>`, "<empty>x</empty>", "<empty> </empty>", "<empty><y/></empty>",
		"<invoke/>", `<invoke node="1"/>`, `<invoke var="1"/>`, `<invoke var="0" node="1"/>`, `<invoke node="1" var="0" a=""/>`, `<invoke a="" node="1" var="0"/>`, `<invoke node="1" a="" var="0"/>`,
		`<invoke node="1" var="0">x</invoke>`, `<invoke node="1" message="0"/>`, `<invoke node="1" var="0" value="1"/>`,
		`<assign node="1" var="0"/>`, `<assign node="1" value="1"/>`, `<assign var="0" value="1"/>`, `<assign node="1" value="1" var="0"/>`, `<assign node="1" var="0" value=""/>`,
		`<assign node="1" var="0" value="01"/>`, `<assign node="1" var="0" value="$4"/>`, `<assign node="1" var="0" value="(add 1)"/>`, `<assign node="1" var="0" value=" 1"/>`,
		`<assign node="1" var="0" value="1" a=""/>`, `<assign node="1" var="0" term="1"/>`,
		"<receive/>", `<receive node="1"/>`, `<receive message="0"/>`, `<receive message="0" node="1"/>`, `<receive node="1" var="0"/>`, `<receive node="1" message="0" a=""/>`,
		"<wait/>", `<wait node="1" message="4"/>`, `<wait node="1" a=""/>`, `<wait message="0"/>`,
		`<sequence node="1"><empty/><empty/></sequence>`, "<sequence>x</sequence>", "<sequence><empty/><y/></sequence>", `<sequence><empty/><link to="0"/></sequence>`,
		`<flow from="0" to="1"/>`, `<flow node="1"><empty/><empty/></flow>`, "<flow><empty/><empty/><link/></flow>",
		"<pick><on node=\"1\"><empty/></on><on node=\"2\"><empty/></on></pick>", `<pick node="1" a=""><on node="2"><empty/></on><on node="3"><empty/></on></pick>`,
		`<on><empty/></on>`, `<on message="0"><empty/></on>`, `<on message="0" node="1"><empty/></on>`, `<on node="1" message="4"><empty/></on>`, `<on node="1" message=""><empty/></on>`,
		`<on node="1" message="0" a=""><empty/></on>`, `<on node="1" var="0"><empty/></on>`,
		`<rules/>`, `<rules a=""><process/></rules>`, `<rules><empty/></rules>`, `<rules><process/><process/></rules>`, `<rules><process a=""/></rules>`, `<rules>x</rules>`,
		`<rules><process><y/></process></rules>`, `<rules><process><flow from="0" to="1"/><start/></process></rules>`, `<rules><process><catch message="4"/></process></rules>`, `<rules><process/><empty/></rules>`,
		`<rules><process><start/><end/><flow from="0" to="01"/></process></rules>`, `<rules><rules/></rules>`, `<rules><process>x</process></rules>`, `<rules node="1"><process/></rules>`,
	}
	for _, n := range []string{"", "00", "01", "-1", "-0", "+1", " 1", "1 ", "1x", "x", "0x1", "1_0", "100", "1000000000000000000000", "1.0", "1e0", "$1"} {
		l = append(l, `<wait node="`+n+`"/>`, `<invoke node="1" var="`+n+`"/>`, `<assign node="1" var="`+n+`" value="1"/>`, `<receive node="1" message="`+n+`"/>`, `<on node="1" message="`+n+`"/>`,
			`<gate node="1" kind="`+n+`"/>`, `<gate node="1" kind="3" else="`+n+`"/>`, `<if node="1" else="`+n+`"/>`, `<loop node="1" else="0" leaves="`+n+`"/>`, `<loop node="1" else="`+n+`" leaves="0"/>`,
			`<web><link from="`+n+`"/></web>`, `<web><link to="`+n+`"/></web>`, `<web><link from="0" to="`+n+`"/></web>`)
	}
	return append(append(l, wrongChoices()...), wrongWebs()...)
}

func wrongChoices() []string {
	const c0, c1, c2 = ` c0="(eq 1 1)"`, ` c1="(eq 1 2)"`, ` c2="(eq 1 3)"`
	l := []string{
		`<if else="1"` + c0 + `/>`, `<if node="1"` + c0 + `/>`, `<if else="1" node="1"` + c0 + `/>`, `<if node="1"` + c0 + ` else="1"/>`, `<if node="1" else="1" leaves="0"` + c0 + `/>`,
		`<loop node="1" leaves="0" else="1"` + c0 + `/>`, `<loop node="1" else="1"` + c0 + `/>`, `<loop node="1" leaves="0"` + c0 + `/>`, `<loop node="1" else="1"` + c0 + ` leaves="0"/>`,
		`<gate/>`, `<gate node="1"/>`, `<gate kind="1"/>`, `<gate kind="1" node="1"/>`, `<gate node="1" kind="1" else="0"/>`, `<gate node="1" kind="2"` + c0 + `/>`, `<gate node="1" kind="4" else="1"` + c0 + `/>`,
		`<gate node="1" kind="3"/>`, `<gate node="1" kind="3"` + c0 + `/>`, `<gate node="1" else="1" kind="3"` + c0 + `/>`, `<gate node="1" kind="5" else="1"` + c0 + `/>`, `<gate node="1" kind="0" else="0"/>`,
	}
	for _, head := range []string{`<if node="1" else="`, `<gate node="1" kind="3" else="`} {
		for _, rest := range []string{
			`1"` + c1, `1"` + c0 + c1, `1"` + c0 + c1 + c2, `1"` + c2, `1"` + c2 + c0, `0"` + c0, `0"` + c0 + c1, `0"` + c2, `0"` + c2 + c1, `2"` + c0 + c2, `2"` + c1, `2"` + c1 + c0, `3"` + c0 + c2,
			`2"`, `3"`, `99"`, `3"` + c0, `9"` + c0, `4"` + c0 + c1, `99"` + c0 + c1,
			`1" c="(eq 1 1)"`, `1" c00="(eq 1 1)"`, `1" c0=""`, `1" c0="(eq 1)"`, `1" c0="eq"`, `1" c0="(eq 1 1)" a=""`, `1" a=""` + c0, `1"` + c0 + ` c02="(eq 1 1)"`, `1" d0="(eq 1 1)"`, `1" c0x="(eq 1 1)"`, `0" c01="(eq 1 1)"`,
		} {
			l = append(l, head+rest+"/>")
		}
	}
	return l
}

func wrongWebs() []string {
	var l []string
	for _, kids := range []string{
		"<link/><empty/>", "<empty/><link/><empty/>", "<empty/><link/><y/>", "<y/><link/>", "<link>x</link>", "<link><empty/></link>", `<link node="1"/>`, `<link to="0" from="0"/>`, `<link from="0" to="0" a=""/>`,
		`<link a="" from="0"/>`, `<link from="0" a="" to="0"/>`, `<links/>`, "<link/><process/>", "<link><link/></link>", `<link from="-1" to="0"/>`,
	} {
		l = append(l, "<web>"+kids+"</web>")
	}
	return append(l, "<web>x</web>", `<web node="1"><empty/><link to="0"/><link from="0"/></web>`)
}

// 17.2: what is no activity's element is one nowhere, and whatever else is wrong: if there are too many, too.
func TestWrong(t *testing.T) {
	for _, s := range wrong() {
		if _, _, err := tree.Parse(s); err != api.OK {
			t.Fatalf("%q is no element", s)
		}
		wantRead(t, s, 0, api.ErrForm)
		wantRead(t, "<flow><empty/>"+s+"</flow>", 0, api.ErrForm)
		wantRead(t, "<web><empty/>"+s+`<link to="0"/><link from="0"/></web>`, 0, api.ErrForm)
		many := strings.Repeat("<empty/>", 50)
		wantRead(t, "<flow><sequence>"+many+"</sequence><flow>"+many+"</flow>"+s+"</flow>", 0, api.ErrForm)
		wantRead(t, "<flow>"+s+"<sequence>"+many+"</sequence><flow>"+many+"</flow></flow>", 0, api.ErrForm)
	}
}

// 17.2: what is an activity's element, but of no right one, is bpel.Check's matter: too many counts for more, and then a wrong form for more than one twice.
func TestNotRight(t *testing.T) {
	const c0, c1 = ` c0="(eq 1 1)"`, ` c1="(eq 1 2)"`
	const two = "<empty/><empty/>"
	for _, s := range []string{
		`<invoke node="24" var="0"/>`, `<invoke node="99" var="0"/>`, `<invoke node="1" var="4"/>`, `<invoke node="1" var="99"/>`, `<receive node="1" message="4"/>`, `<receive node="1" message="99"/>`,
		`<assign node="1" var="4" value="1"/>`, `<assign node="1" var="0" value="(eq 1 1)"/>`, `<assign node="1" var="0" value="(neg (eq 1 1))"/>`, `<wait node="24"/>`,
		"<sequence/>", "<sequence><empty/></sequence>", "<flow/>", "<flow><empty/></flow>", `<pick node="1"/>`, `<pick node="1">` + two + "</pick>", `<pick node="1"><on node="2"><empty/></on></pick>`,
		`<on node="1"><empty/></on>`, `<on node="1" message="0"><empty/></on>`, `<pick node="1"><on node="2"/><on node="3"/></pick>`, `<pick node="1"><on node="2">` + two + `</on><on node="3"><empty/></on></pick>`,
		`<pick node="1"><on node="2" message="5"><empty/></on><on node="3"><empty/></on></pick>`, `<pick node="1"><on node="2" message="99"><empty/></on><on node="3"><empty/></on></pick>`,
		`<gate node="1" kind="1"/>`, `<gate node="1" kind="0"/>`, `<gate node="1" kind="99"/>`, `<gate node="1" kind="3" else="0"/>`, `<gate node="1" kind="3" else="1"` + c0 + "/>",
		`<if node="1" else="0"/>`, `<if node="1" else="0">` + two + "</if>", `<if node="1" else="1"` + c0 + "/>", `<if node="1" else="1"` + c0 + "><empty/></if>", `<if node="1" else="1"` + c0 + ">" + two + "<empty/></if>",
		`<if node="24" else="1"` + c0 + ">" + two + "</if>", `<if node="1" else="1" c0="1">` + two + "</if>", `<if node="1" else="1" c0="(not 1)">` + two + "</if>",
		`<loop node="1" else="0" leaves="2"` + c1 + ">" + two + "</loop>", `<loop node="1" else="2" leaves="0"` + c0 + c1 + ">" + two + "</loop>", `<loop node="1" else="0" leaves="0"` + c1 + "><empty/></loop>",
		// The else one, one place further on than behind all conds.
		`<if node="1" else="1">` + two + "</if>", `<if node="1" else="2"` + c0 + ">" + two + "</if>", `<if node="1" else="3"` + c0 + c1 + ">" + two + "</if>", `<if node="1" else="3"` + c0 + c1 + ">" + two + two + "</if>",
		`<loop node="1" else="2" leaves="0"` + c0 + ">" + two + "</loop>", `<gate node="1" kind="3" else="3"` + c0 + c1 + "/>",
		"<web/>", "<web><link/></web>", "<web><empty/></web>", "<web><empty/><link/></web>", `<web><empty/><link to="0"/></web>`, `<web><empty/><link to="0"/><link from="99"/></web>`, `<web><empty/><link to="0"/><link from="0" to="0"/></web>`,
		"<rules><process/></rules>", "<rules><process><start/></process></rules>", `<rules><process><start/><end/><flow from="0" to="100"/></process></rules>`,
		"<empty><empty/></empty>", `<wait node="1"><wait node="2"/></wait>`,
	} {
		wantRead(t, s, 0, api.ErrForm)
		twice := `<flow><wait node="7"/><wait node="7"/></flow>`
		wantRead(t, "<flow>"+twice+s+"</flow>", 0, api.ErrForm)
		many := strings.Repeat("<empty/>", 50)
		wantRead(t, "<flow><sequence>"+many+"</sequence>"+twice+"<flow>"+many+"</flow>"+s+"</flow>", 0, api.ErrLong)
	}
	wantRead(t, `<flow><wait node="7"/><empty/><flow><empty/><on node="7"/></flow></flow>`, 0, api.ErrForm)
	wantRead(t, `<flow><wait node="7"/><empty/><flow><empty/><invoke node="7" var="0"/></flow></flow>`, 0, api.ErrSame)
	wantRead(t, "<flow><sequence>"+strings.Repeat("<empty/>", 64)+"</sequence><sequence>"+strings.Repeat("<empty/>", 29)+"</sequence></flow>", 0, api.OK)
	wantRead(t, "<flow><sequence>"+strings.Repeat("<empty/>", 64)+"</sequence><sequence>"+strings.Repeat("<empty/>", 30)+"</sequence></flow>", 0, api.ErrLong)
}

// 17.2: of too many kids of whatever, it is told that they are too many.
func TestKidsOfAny(t *testing.T) {
	for s, a := range pairs() {
		if a.Kind == bpel.Rules || a.Kind == bpel.Web {
			continue
		}
		e, _, _ := tree.Parse(s)
		for _, count := range []int{1, 94, 97, 5000} {
			more := e
			more.Kids = append(slices.Clone(e.Kids), slices.Repeat([]tree.Elem{{Name: "empty"}}, count)...)
			_, err := page.Act(more)
			if long := len(more.Kids) > 95; long && err != api.ErrLong || !long && a.Kids == nil && err != api.ErrForm {
				t.Errorf("Act of %s and %d more kids: %v", s, count, err)
			}
			more.Kids[len(more.Kids)-1].Name = "link"
			if _, err := page.Act(more); err != api.ErrForm {
				t.Errorf("Act of %s and %d more kids, the last of them a link: %v", s, count, err)
			}
		}
	}
}

// 17.2: what tree.Parse says, and its place.
func TestParse(t *testing.T) {
	wantRead(t, strings.Repeat("x", api.MaxText+1), 0, api.ErrLong)
	for s, place := range map[string]int{
		"": 0, "x": 0, "<a>": 3, "<flow><empty>": 13, "<empty/>\n": 8, "<flow>\n<empty/></flow>": 7, "<flow><empty/></x>": 14, "<flow><Empty/></flow>": 6, `<wait node="1" node="1"/>`: 0, "<y/><y/>": 4,
	} {
		wantRead(t, s, place, api.ErrForm)
	}
	wantRead(t, "<y>"+strings.Repeat("<y/>", api.MaxKids+1)+"</y>", 3+4*api.MaxKids, api.ErrLong)
	wantRead(t, strings.Repeat("<flow>", api.MaxDepth+1), 6*api.MaxDepth, api.ErrLong)
}

// bare is an element that has neither kids nor a text.
var bare = regexp.MustCompile("<([a-z]+)([^<>]*)/>")

// 17.3: the same, written otherwise, is read as the same, and written as it was.
func TestOtherwise(t *testing.T) {
	for s, a := range pairs() {
		other := bare.ReplaceAllString(s, "<$1$2></$1>")
		got, at, err := page.Read(other)
		if !reflect.DeepEqual(got, a) || at != 0 || err != api.OK {
			t.Errorf("Read(%s): %v, %d, %v", other, got, at, err)
		}
		if again, _ := page.Write(got); again != s {
			t.Errorf("Write: %s; want %s", again, s)
		}
	}
}

// R3: elements and programs share nothing with what was handed in, and no two lists share any, spare room too.
func TestMemory(t *testing.T) {
	for s, a := range pairs() {
		e, _ := page.Elem(a)
		stretch(&e)
		if !reflect.DeepEqual(a, pairs()[s]) {
			t.Fatalf("Elem changed %s", s)
		}
		if kid := strings.Count(text(e), "<spare"); kid != 2*tree.Count(e)/3 {
			t.Errorf("%d spare kids: %s", kid, text(e))
		}
		e, _, _ = tree.Parse(s)
		first, _ := page.Act(e)
		second, _ := page.Act(e)
		spoil(&first)
		if !reflect.DeepEqual(second, a) {
			t.Errorf("%s was changed to %v", s, second)
		}
		if again, _, _ := tree.Parse(s); !reflect.DeepEqual(again, e) {
			t.Errorf("Act changed %s", s)
		}
	}
}

// stretch puts two kids, and two attributes, behind those of an element and of all in it.
func stretch(e *tree.Elem) {
	for i := range e.Kids {
		stretch(&e.Kids[i])
	}
	e.Attrs = append(e.Attrs, mark.Attr{Name: "x"}, mark.Attr{Name: "y"})
	e.Kids = append(e.Kids, tree.Elem{Name: "spare"}, tree.Elem{Name: "spare"})
}

func text(e tree.Elem) string {
	s, _ := tree.Write(e)
	return s
}

// spoil changes all that is in a program's lists.
func spoil(a *bpel.Act) {
	for i := range a.Kids {
		spoil(&a.Kids[i])
	}
	for i := range a.Conds {
		clear(a.Conds[i].Kids[:cap(a.Conds[i].Kids)])
	}
	clear(a.Term.Kids[:cap(a.Term.Kids)])
	clear(a.Conds[:cap(a.Conds)])
	clear(a.Kids[:cap(a.Kids)])
	clear(a.Links[:cap(a.Links)])
	clear(a.Net.Nodes[:cap(a.Net.Nodes)])
	clear(a.Net.Flows[:cap(a.Net.Flows)])
}

// within is an element, so many flows around it, each of which has other kids ahead of it and behind it.
func within(e tree.Elem, levels, others int) tree.Elem {
	for range levels {
		kids := slices.Repeat([]tree.Elem{{Name: "empty"}}, 2*others+1)
		kids[others] = e
		e = tree.Elem{Name: "flow", Kids: kids}
	}
	return e
}

// 17.2: an element that is none's is told wherever it lies; only if there is none, that there are too many.
func TestWrongOneFarOff(t *testing.T) {
	wrongs := []tree.Elem{{}, {Name: "y"}, {Name: "link"}, {Name: "empty", Text: " "}, {Name: "wait"}, {Name: "rules"}, {Name: "web", Kids: []tree.Elem{{Name: "link", Text: "x"}}}, {Name: "invoke", Kids: []tree.Elem{{Name: "y"}}}}
	for _, levels := range []int{1, 23, 24, 95, 96, 97, 999, 1000, 1001, 3000, 20000} {
		for _, others := range []int{0, 1, 40} {
			if levels*others > 50000 {
				continue
			}
			for _, e := range wrongs {
				if a, err := page.Act(within(e, levels, others)); err != api.ErrForm || !reflect.DeepEqual(a, bpel.Act{}) {
					t.Errorf("%v, %d deep, %d beside it: %v", e, levels, others, err)
				}
			}
			want := api.ErrLong
			if levels == 1 && others < 50 || levels == 23 && others == 1 {
				want = api.OK
			}
			if others == 0 && levels < 24 {
				want = api.ErrForm
			}
			if _, err := page.Act(within(tree.Elem{Name: "wait", Attrs: []mark.Attr{{Name: "node", Value: "1"}}}, levels, others)); err != want {
				t.Errorf("a right one, %d deep, %d beside it: %v; want %v", levels, others, err, want)
			}
		}
	}
	for _, many := range []int{95, 96, 97, 100000} {
		e := tree.Elem{Name: "flow", Kids: slices.Repeat([]tree.Elem{{Name: "empty"}}, many)}
		e.Kids[many-1].Name = "link"
		if _, err := page.Act(e); err != api.ErrForm {
			t.Errorf("the last of %d: %v", many, err)
		}
	}
}

// twice is an element that has another one twice, which has another one twice, and so on: more than could be gone through one by one.
func twice(last tree.Elem) tree.Elem {
	for range 70 {
		last = tree.Elem{Name: "flow", Kids: []tree.Elem{last, last}}
	}
	return last
}

// P3: calls end at anything.
func TestEnds(t *testing.T) {
	for name, want := range map[string]api.Errno{"flow": api.ErrLong, "empty": api.ErrLong, "web": api.ErrLong, "rules": api.ErrForm, "link": api.ErrForm, "": api.ErrForm} {
		kids := make([]tree.Elem, 3)
		for i := range kids {
			kids[i] = tree.Elem{Name: name, Kids: kids}
		}
		if a, err := page.Act(kids[0]); err != want || !reflect.DeepEqual(a, bpel.Act{}) {
			t.Errorf("Act of %q in itself: %v", name, err)
		}
		// The last of them is wrong, and is come to behind the others only.
		kids[2].Text = "x"
		if a, err := page.Act(kids[0]); err != api.ErrForm || !reflect.DeepEqual(a, bpel.Act{}) {
			t.Errorf("Act of %q in itself, and a wrong one: %v", name, err)
		}
	}
	for last, want := range map[string]api.Errno{"empty": api.ErrLong, "y": api.ErrForm} {
		if _, err := page.Act(twice(tree.Elem{Name: last})); err != want {
			t.Errorf("Act of %q in many: %v; want %v", last, err, want)
		}
	}
	kids := make([]bpel.Act, 2)
	kids[0], kids[1] = bpel.Act{Kind: bpel.Flow, Kids: kids}, bpel.Act{Kind: bpel.Flow, Kids: kids}
	if e, err := page.Elem(kids[0]); err != api.ErrLong || !reflect.DeepEqual(e, tree.Elem{}) {
		t.Errorf("Elem of a Flow in itself: %v", err)
	}
	for _, s := range []string{strings.Repeat("<flow>", 3000), "<flow>" + strings.Repeat("<empty/>", 64), strings.Repeat("</flow>", 2000), "<flow>\x00</flow>", "\xff"} {
		if _, _, err := page.Read(s); err == api.OK {
			t.Errorf("Read(%.20q): OK", s)
		}
	}
}
