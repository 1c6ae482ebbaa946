package page_test

import (
	"reflect"
	"slices"
	"strconv"
	"strings"
	"testing"

	"treenail/api"
	"treenail/bpel"
	"treenail/page"
	"treenail/sample"
	"treenail/tree"
)

func eq(a, b int) api.Term {
	return api.Term{Op: api.OpEq, Kids: []api.Term{{Op: api.OpVar, N: a}, {Op: api.OpNum, N: b}}}
}

func empties(count int) []bpel.Act {
	return slices.Repeat([]bpel.Act{{Kind: bpel.Empty}}, count)
}

// choice is an If of so many kids, of which other is the else one.
func choice(kids, other int) bpel.Act {
	a := bpel.Act{Kind: bpel.If, Node: 3, A: other, Conds: make([]api.Term, kids), Kids: empties(kids)}
	for i := range a.Conds {
		if i != other {
			a.Conds[i] = eq(0, i)
		}
	}
	return a
}

// choiceText is the text of that, or of one that is none.
func choiceText(other int, places ...int) string {
	s := `<if node="3" else="` + strconv.Itoa(other) + `"`
	for _, i := range places {
		s += ` c` + strconv.Itoa(i) + `="(eq $0 ` + strconv.Itoa(i) + `)"`
	}
	return s + ">" + strings.Repeat("<empty/>", len(places)+1) + "</if>"
}

// upTo are the places from 0 on, so many, but for one of them.
func upTo(count, without int) []int {
	var l []int
	for i := range count {
		if i != without {
			l = append(l, i)
		}
	}
	return l
}

func on(node, message int, kid bpel.Act) bpel.Act {
	return bpel.Act{Kind: bpel.On, Node: node, A: message, Kids: []bpel.Act{kid}}
}

// pairs are programs of all kinds, and their texts.
func pairs() map[string]bpel.Act {
	sum := api.Term{Op: api.OpAdd, Kids: []api.Term{{Op: api.OpVar, N: 1}, {Op: api.OpNum, N: api.MaxInt}}}
	return map[string]bpel.Act{
		"<empty/>":                   {Kind: bpel.Empty},
		`<invoke node="1" var="0"/>`: {Kind: bpel.Invoke, Node: 1},
		`<invoke node="0" var="3"/>`: {Kind: bpel.Invoke, A: 3},
		`<assign node="23" var="2" value="(add $1 1099511627776)"/>`: {Kind: bpel.Assign, Node: 23, A: 2, Term: sum},
		`<receive node="10" message="0"/>`:                           {Kind: bpel.Receive, Node: 10},
		`<receive node="2" message="3"/>`:                            {Kind: bpel.Receive, Node: 2, A: 3},
		`<wait node="4"/>`:                                           {Kind: bpel.Wait, Node: 4},
		"<sequence><empty/><empty/></sequence>":                      {Kind: bpel.Sequence, Kids: empties(2)},
		`<flow><empty/><wait node="0"/><empty/></flow>`:              {Kind: bpel.Flow, Kids: []bpel.Act{{Kind: bpel.Empty}, {Kind: bpel.Wait}, {Kind: bpel.Empty}}},
		choiceText(1, 0):                                             choice(2, 1),
		choiceText(0, 1):                                             choice(2, 0),
		choiceText(1, 0, 2, 3):                                       choice(4, 1),
		choiceText(11, 0, 1, 2, 3, 4, 5, 6, 7, 8, 9, 10):             choice(12, 11),
		choiceText(9, 0, 1, 2, 3, 4, 5, 6, 7, 8, 10, 11):             choice(12, 9),
		`<pick node="1"><on node="2"><empty/></on><on node="3" message="0"><empty/></on><on node="4" message="3"><wait node="5"/></on></pick>`: {
			Kind: bpel.Pick, Node: 1, Kids: []bpel.Act{on(2, api.Msgs, bpel.Act{Kind: bpel.Empty}), on(3, 0, bpel.Act{Kind: bpel.Empty}), on(4, 3, bpel.Act{Kind: bpel.Wait, Node: 5})}},
		`<loop node="4" else="0" leaves="1" c1="(eq $0 3)"><empty/><empty/></loop>`: {Kind: bpel.Loop, Node: 4, B: 1, Conds: []api.Term{{}, eq(0, 3)}, Kids: empties(2)},
		`<loop node="4" else="1" leaves="0" c0="(eq $0 3)"><empty/><empty/></loop>`: {Kind: bpel.Loop, Node: 4, A: 1, Conds: []api.Term{eq(0, 3), {}}, Kids: empties(2)},
		`<web><gate node="0" kind="3" else="1" c0="(eq $0 0)" c2="(eq $1 1)"/><wait node="1"/><gate node="2" kind="4"/>` +
			`<link to="0"/><link from="0" to="1"/><link from="0" to="2"/><link from="0" to="2"/><link from="1" to="2"/><link from="2"/></web>`: {
			Kind:  bpel.Web,
			Kids:  []bpel.Act{{Kind: bpel.Gate, A: 3, B: 1, Conds: []api.Term{eq(0, 0), {}, eq(1, 1)}}, {Kind: bpel.Wait, Node: 1}, {Kind: bpel.Gate, Node: 2, A: 4}},
			Links: []bpel.Link{{From: -1, To: 0}, {From: 0, To: 1}, {From: 0, To: 2}, {From: 0, To: 2}, {From: 1, To: 2}, {From: 2, To: -1}}},
		`<web><gate node="5" kind="2"/><gate node="6" kind="1"/><link from="0"/><link from="1" to="0"/><link from="1" to="0"/><link to="1"/></web>`: {
			Kind:  bpel.Web,
			Kids:  []bpel.Act{{Kind: bpel.Gate, Node: 5, A: 2}, {Kind: bpel.Gate, Node: 6, A: 1}},
			Links: []bpel.Link{{From: 0, To: -1}, {From: 1, To: 0}, {From: 1, To: 0}, {From: -1, To: 1}}},
		`<rules><process><start/><task var="0"/><end/><flow from="0" to="1"/><flow from="1" to="2"/></process></rules>`: {Kind: bpel.Rules, Net: sample.Of("ste", "0-1 1-2")},
	}
}

// 17.1, 17.2: all kinds, with all attributes that they have.
func TestAll(t *testing.T) {
	for s, a := range pairs() {
		if got, err := page.Write(a); got != s || err != api.OK {
			t.Errorf("Write: %s, %v; want %s", got, err, s)
		}
		if got, at, err := page.Read(s); !reflect.DeepEqual(got, a) || at != 0 || err != api.OK {
			t.Errorf("Read(%s): %v, %d, %v", s, got, at, err)
		}
		want, _, _ := tree.Parse(s)
		e, err := page.Elem(a)
		if !reflect.DeepEqual(e, want) || err != api.OK {
			t.Errorf("Elem: %v, %v; want %s", e, err, s)
		}
		if got, err := page.Act(e); !reflect.DeepEqual(got, a) || err != api.OK {
			t.Errorf("Act of %s: %v, %v", s, got, err)
		}
	}
}

// 17.1: the chapter's example.
func TestExample(t *testing.T) {
	const s = `<if node="3" else="1" c0="(eq $0 0)"><invoke node="1" var="0"/><empty/></if>`
	a := choice(2, 1)
	a.Kids[0] = bpel.Act{Kind: bpel.Invoke, Node: 1}
	if got, err := page.Write(a); got != s || err != api.OK {
		t.Errorf("Write: %s, %v", got, err)
	}
	if got, at, err := page.Read(s); !reflect.DeepEqual(got, a) || at != 0 || err != api.OK {
		t.Errorf("Read: %v, %d, %v", got, at, err)
	}
}

// 17.1: bpel.Check's errors, with nothing beside them.
func TestNoProgram(t *testing.T) {
	wait := bpel.Act{Kind: bpel.Wait, Node: 1}
	for what, c := range map[string]struct {
		a    bpel.Act
		want api.Errno
	}{
		"nothing":          {bpel.Act{}, api.ErrForm},
		"no kind":          {bpel.Act{Kind: 15}, api.ErrForm},
		"a variable":       {bpel.Act{Kind: bpel.Invoke, A: api.Vars}, api.ErrForm},
		"an On":            {on(1, 0, wait), api.ErrForm},
		"a Gate":           {bpel.Act{Kind: bpel.Gate, A: 1}, api.ErrForm},
		"a wrong process":  {bpel.Act{Kind: bpel.Rules}, api.ErrForm},
		"a node twice":     {bpel.Act{Kind: bpel.Flow, Kids: []bpel.Act{wait, wait}}, api.ErrSame},
		"97 activities":    {bpel.Act{Kind: bpel.Flow, Kids: empties(96)}, api.ErrLong},
		"97, and a node":   {bpel.Act{Kind: bpel.Flow, Kids: append(empties(95), on(1, 0, wait))}, api.ErrLong},
		"25 levels":        {levels(25), api.ErrLong},
		"a kid of a Wait":  {bpel.Act{Kind: bpel.Wait, Kids: empties(1)}, api.ErrForm},
		"a Link in a Flow": {bpel.Act{Kind: bpel.Flow, Kids: empties(2), Links: []bpel.Link{{}}}, api.ErrForm},
	} {
		if e, err := page.Elem(c.a); !reflect.DeepEqual(e, tree.Elem{}) || err != c.want {
			t.Errorf("Elem of %s: %v, %v; want %v", what, e, err, c.want)
		}
		if s, err := page.Write(c.a); s != "" || err != c.want {
			t.Errorf("Write of %s: %q, %v; want %v", what, s, err, c.want)
		}
	}
}

// levels is a program of so many levels.
func levels(count int) bpel.Act {
	a := bpel.Act{Kind: bpel.Empty}
	for range count - 1 {
		a = bpel.Act{Kind: bpel.Sequence, Kids: []bpel.Act{a, {Kind: bpel.Empty}}}
	}
	return a
}

// row is a Web of so many kids, one behind the other.
func row(kids int) bpel.Act {
	a := bpel.Act{Kind: bpel.Web, Kids: empties(kids), Links: []bpel.Link{{From: kids - 1, To: -1}}}
	for i := range kids {
		a.Links = append(a.Links, bpel.Link{From: i - 1, To: i})
	}
	return a
}

// 17.1, 17.2: programs whose elements are too great for a text: an element tells them, a text does not.
func TestTooGreat(t *testing.T) {
	for what, c := range map[string]struct {
		a    bpel.Act
		want api.Errno
	}{
		"24 levels":              {levels(24), api.OK},
		"64 kids":                {bpel.Act{Kind: bpel.Flow, Kids: empties(64)}, api.OK},
		"65 kids":                {bpel.Act{Kind: bpel.Flow, Kids: empties(65)}, api.ErrLong},
		"95 kids":                {bpel.Act{Kind: bpel.Flow, Kids: empties(95)}, api.ErrLong},
		"31 kids and 32 links":   {row(31), api.OK},
		"32 kids and 33 links":   {row(32), api.ErrLong},
		"39 kids and 40 links":   {row(39), api.ErrLong},
		"64 attributes":          {choice(63, 0), api.OK},
		"65 attributes":          {choice(64, 63), api.ErrForm},
		"65 kids of an If":       {choice(65, 64), api.ErrLong},
		"65 attributes of a kid": {bpel.Act{Kind: bpel.Sequence, Kids: []bpel.Act{choice(64, 3), {Kind: bpel.Empty}}}, api.ErrForm},
	} {
		e, err := page.Elem(c.a)
		if err != api.OK {
			t.Errorf("Elem of %s: %v", what, err)
		}
		if a, err := page.Act(e); !reflect.DeepEqual(a, c.a) || err != api.OK {
			t.Errorf("Act of %s: %v", what, err)
		}
		s, err := page.Write(c.a)
		if err != c.want || (s == "") != (err != api.OK) {
			t.Errorf("Write of %s: %d bytes, %v; want %v", what, len(s), err, c.want)
		}
		if a, _, err := page.Read(s); c.want == api.OK && (err != api.OK || !reflect.DeepEqual(a, c.a)) {
			t.Errorf("Read of %s: %v", what, err)
		}
	}
}

// 17.2: the places of conds are at most 63, that of the else one may be 64.
func TestCondsPlaces(t *testing.T) {
	for kids := 2; kids <= 95; kids++ {
		for _, other := range []int{0, 1, kids / 2, kids - 2, kids - 1} {
			e, err := page.Elem(choice(kids, other))
			if err != api.OK || len(e.Attrs) != kids+1 || len(e.Kids) != kids {
				t.Fatalf("Elem of %d kids: %v", kids, err)
			}
			want, wanted := api.OK, choice(kids, other)
			if kids > 65 || kids == 65 && other < 64 {
				want, wanted = api.ErrForm, bpel.Act{}
			}
			if a, err := page.Act(e); err != want || !reflect.DeepEqual(a, wanted) {
				t.Errorf("Act of %d kids, else %d: %v; want %v", kids, other, err, want)
			}
		}
	}
}

// leafy is a term of 2^(levels - 1) numbers, each of one digit, and up to 11 more of the extra ones while there are any.
func leafy(levels int, extra *int) api.Term {
	if levels > 1 {
		return api.Term{Op: api.OpAdd, Kids: []api.Term{leafy(levels-1, extra), leafy(levels-1, extra)}}
	}
	digits := min(*extra, 11)
	*extra -= digits
	n, _ := strconv.Atoi("7" + strings.Repeat("0", digits))
	return api.Term{Op: api.OpNum, N: n}
}

// assigns is a Sequence of three Assigns, of which no term's text has more than MaxText bytes, with so many extra digits.
func assigns(extra int) bpel.Act {
	a := bpel.Act{Kind: bpel.Sequence}
	for i := range 3 {
		a.Kids = append(a.Kids, bpel.Act{Kind: bpel.Assign, Node: i, Term: leafy(10, &extra)})
	}
	return a
}

// 17.1: MaxText bytes of a text, and one more.
func TestFull(t *testing.T) {
	s, err := page.Write(assigns(0))
	if err != api.OK {
		t.Fatal(err)
	}
	a := assigns(api.MaxText - len(s))
	if s, err = page.Write(a); len(s) != api.MaxText || err != api.OK {
		t.Fatalf("Write: %d bytes, %v", len(s), err)
	}
	if got, at, err := page.Read(s); err != api.OK || at != 0 || !reflect.DeepEqual(got, a) {
		t.Errorf("Read of MaxText bytes: %v", err)
	}
	s, _ = page.Write(assigns(0))
	a = assigns(api.MaxText - len(s) + 1)
	if s, err := page.Write(a); s != "" || err != api.ErrFull {
		t.Errorf("Write of a byte more: %d bytes, %v", len(s), err)
	}
	if e, err := page.Elem(a); err != api.OK || tree.Check(e) != api.ErrFull {
		t.Errorf("Elem of a byte more: %v", err)
	}
}

// 17.1, 17.2: an element has the text of a term that is longer than MaxText, and is read again.
func TestLongTerm(t *testing.T) {
	extra := 5000
	value := leafy(13, &extra)
	length := 5000 + 1<<12*8 - 7
	cond := api.Term{Op: api.OpLt, Kids: []api.Term{value, {Op: api.OpVar}}}
	for name, a := range map[string]bpel.Act{
		"value": {Kind: bpel.Assign, Node: 1, Term: value},
		"c1":    {Kind: bpel.If, Node: 1, Conds: []api.Term{{}, cond}, Kids: empties(2)},
	} {
		e, err := page.Elem(a)
		if err != api.OK {
			t.Fatalf("Elem: %v", err)
		}
		text, _ := tree.Get(e, name)
		if text = strings.TrimSuffix(strings.TrimPrefix(text, "(lt "), " $0)"); len(text) != length || strings.Trim(text, "(add )70") != "" {
			t.Errorf("the term's text has %d bytes; want %d", len(text), length)
		}
		if got, err := page.Act(e); err != api.OK || !reflect.DeepEqual(got, a) {
			t.Errorf("Act: %v", err)
		}
		if s, err := page.Write(a); s != "" || err != api.ErrFull {
			t.Errorf("Write: %d bytes, %v", len(s), err)
		}
	}
}
