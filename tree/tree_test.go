package tree_test

import (
	"math/rand"
	"reflect"
	"strconv"
	"strings"
	"testing"

	"treenail/api"
	"treenail/mark"
	"treenail/tree"
)

func elem(name string, kids ...tree.Elem) tree.Elem {
	return tree.Elem{Name: name, Kids: kids}
}

// nest is a chain of elements, so many deep.
func nest(levels int) tree.Elem {
	e := elem("a")
	for range levels - 1 {
		e = elem("a", e)
	}
	return e
}

// row is an element with so many kids.
func row(kids int) tree.Elem {
	e := elem("a")
	for range kids {
		e.Kids = append(e.Kids, elem("b"))
	}
	return e
}

// round is an element whose kids, so many, lie in themselves.
func round(kids int) tree.Elem {
	l := make([]tree.Elem, kids)
	for i := range l {
		l[i] = elem("a", l...)
	}
	return l[0]
}

func attrs(n int) []mark.Attr {
	var l []mark.Attr
	for i := range n {
		l = append(l, mark.Attr{Name: "a" + strconv.Itoa(i), Value: strconv.Itoa(i)})
	}
	return l
}

func wantParse(t *testing.T, s string, place int, want api.Errno) {
	t.Helper()
	if x, at, e := tree.Parse(s); at != place || e != want || !reflect.DeepEqual(x, tree.Elem{}) {
		t.Errorf("Parse(%.60q): %v, %d, %v; want %v at %d", s, x, at, e, want, place)
	}
}

func wantError(t *testing.T, what string, e tree.Elem, want api.Errno) {
	t.Helper()
	if err := tree.Check(e); err != want {
		t.Errorf("Check of %s: %v; want %v", what, err, want)
	}
	if s, err := tree.Write(e); err != want || (want == api.OK) != (s != "") {
		t.Errorf("Write of %s: %.60q, %v; want %v", what, s, err, want)
	}
}

// 2.1: texts.
func TestWrite(t *testing.T) {
	for _, c := range []struct {
		e    tree.Elem
		want string
	}{
		{elem("a"), "<a/>"},
		{tree.Elem{Name: "a", Attrs: []mark.Attr{}, Kids: []tree.Elem{}}, "<a/>"},
		{tree.Elem{Name: "a", Text: "x<>&\"\n"}, "<a>x&lt;&gt;&amp;&quot;\n</a>"},
		{tree.Elem{Name: "a", Attrs: []mark.Attr{{Name: "b", Value: "\""}, {Name: "c"}}}, "<a b=\"&quot;\" c=\"\"/>"},
		{tree.Elem{Name: "a", Attrs: []mark.Attr{{Name: "b", Value: ">"}}, Text: " "}, "<a b=\"&gt;\"> </a>"},
		{elem("a", elem("b", elem("c")), elem("b"), tree.Elem{Name: "d", Text: "1"}), "<a><b><c/></b><b/><d>1</d></a>"},
	} {
		if s, e := tree.Write(c.e); s != c.want || e != api.OK || tree.Check(c.e) != api.OK {
			t.Errorf("Write(%v): %q, %v", c.e, s, e)
		}
	}
}

// 2.1: MaxDepth and MaxKids, at the limit and one past it.
func TestLong(t *testing.T) {
	wantError(t, "MaxDepth levels", nest(api.MaxDepth), api.OK)
	wantError(t, "a level more", nest(api.MaxDepth+1), api.ErrLong)
	wantError(t, "MaxKids kids", row(api.MaxKids), api.OK)
	wantError(t, "a kid more", row(api.MaxKids+1), api.ErrLong)
	wantError(t, "a kid more, inside", elem("a", elem("b"), row(api.MaxKids+1)), api.ErrLong)
	wantError(t, "too deep, the last of all", elem("a", elem("b"), nest(api.MaxDepth)), api.ErrLong)
}

// 2.1: whatever else makes an element none.
func TestForm(t *testing.T) {
	for what, e := range map[string]tree.Elem{
		"no name":                   {},
		"a wrong name":              elem("A"),
		"a long name":               elem(strings.Repeat("a", api.MaxName+1)),
		"a wrong attribute":         {Name: "a", Attrs: []mark.Attr{{Name: "B"}}},
		"a long attribute":          {Name: "a", Attrs: []mark.Attr{{Name: strings.Repeat("a", api.MaxName+1)}}},
		"a wrong value":             {Name: "a", Attrs: []mark.Attr{{Name: "b", Value: "\t"}}},
		"an attribute twice":        {Name: "a", Attrs: []mark.Attr{{Name: "b"}, {Name: "b", Value: "x"}}},
		"an attribute too many":     {Name: "a", Attrs: attrs(api.MaxKids + 1)},
		"an attribute more, inside": elem("a", tree.Elem{Name: "b", Attrs: attrs(api.MaxKids + 1)}),
		"a wrong text":              {Name: "a", Text: "x\x00"},
		"a text beside a kid":       {Name: "a", Text: "x", Kids: []tree.Elem{elem("b")}},
		"a wrong kid":               elem("a", elem("b"), elem("c", elem(""))),
	} {
		wantError(t, what, e, api.ErrForm)
	}
	wantError(t, "MaxKids attributes", tree.Elem{Name: "a", Attrs: attrs(api.MaxKids)}, api.OK)
	wantError(t, "a name of MaxName bytes", elem(strings.Repeat("a", api.MaxName)), api.OK)
}

// 2.1: MaxText bytes of a text, and one more.
func TestFull(t *testing.T) {
	x := strings.Repeat("x", api.MaxText-len("<a></a>"))
	s, err := tree.Write(tree.Elem{Name: "a", Text: x})
	if s != "<a>"+x+"</a>" || err != api.OK {
		t.Errorf("Write of MaxText bytes: %d bytes, %v", len(s), err)
	}
	wantError(t, "a byte more", tree.Elem{Name: "a", Text: x + "x"}, api.ErrFull)
	wantError(t, "an escape more", tree.Elem{Name: "a", Text: x[1:] + "<"}, api.ErrFull)
	wantError(t, "a byte more of a name", tree.Elem{Name: "ab", Text: x}, api.ErrFull)
	value := strings.Repeat("x", api.MaxText-len("<a b=\"\"/>"))
	wantError(t, "MaxText bytes by a value", tree.Elem{Name: "a", Attrs: []mark.Attr{{Name: "b", Value: value}}}, api.OK)
	wantError(t, "a byte more by a value", tree.Elem{Name: "a", Attrs: []mark.Attr{{Name: "b", Value: value + "x"}}}, api.ErrFull)
	wide := row(api.MaxKids)
	for i := range wide.Kids {
		wide.Kids[i] = row(api.MaxKids)
	}
	wantError(t, "MaxText bytes passed by many kids", elem("a", wide, wide), api.ErrFull)
}

// 2.1: ErrLong goes ahead of ErrForm, and that of ErrFull, wherever they are.
func TestOrder(t *testing.T) {
	full := tree.Elem{Name: "a", Text: strings.Repeat("x", api.MaxText)}
	wrong := elem("A")
	wantError(t, "full and wrong", elem("a", full, wrong), api.ErrForm)
	wantError(t, "full and too deep", elem("a", full, nest(api.MaxDepth)), api.ErrLong)
	wantError(t, "wrong and too deep", elem("a", wrong, nest(api.MaxDepth)), api.ErrLong)
	wantError(t, "wrong and a kid too many", elem("A", full, row(api.MaxKids+1)), api.ErrLong)
	wantError(t, "kids that are none, too many", tree.Elem{Name: "a", Kids: make([]tree.Elem, api.MaxKids+1)}, api.ErrLong)
}

// 2.2: ordinary texts.
func TestParse(t *testing.T) {
	for s, want := range map[string]tree.Elem{
		"<a/>":               elem("a"),
		"<a></a>":            elem("a"),
		"<a>x</a>":           {Name: "a", Text: "x"},
		"<a>\n</a>":          {Name: "a", Text: "\n"},
		"<a b=\"&lt;\"/>":    {Name: "a", Attrs: []mark.Attr{{Name: "b", Value: "<"}}},
		"<a><a/><a></a></a>": elem("a", elem("a"), elem("a")),
		"<a><b><c/></b>" + "<d e=\"\">&amp;</d></a>": elem("a", elem("b", elem("c")), tree.Elem{Name: "d", Attrs: []mark.Attr{{Name: "e"}}, Text: "&"}),
	} {
		if x, at, e := tree.Parse(s); e != api.OK || at != 0 || !reflect.DeepEqual(x, want) {
			t.Errorf("Parse(%q): %v, %d, %v; want %v", s, x, at, e, want)
		}
	}
}

// 2.2: mark.Read's errors, whatever else is wrong ahead of them, and ErrForm with its places.
func TestParseForm(t *testing.T) {
	wantParse(t, strings.Repeat("x", api.MaxText+1), 0, api.ErrLong)
	for s, place := range map[string]int{
		"</a><": 4, "x<a b>": 1, "<a/><a/>&": 8, "<a>\x00</a>": 3,
		"": 0, "x": 0, "x<a/>": 0, "\n<a/>": 0, "</a>": 0, "<a/>\n": 4, "<a>x</a>y": 8,
		"<a><b/>x</a>": 7, "<a>x<b/></a>": 4, "<a>\n<b/></a>": 4, "<a><b/>\n</a>": 7,
		"<a></b>": 3, "<a><b></a></b>": 6, "<a/></a>": 4, "<a></a></a>": 7,
		"<a/><b/>": 4, "<a></a><b>": 7, "<a>": 3, "<a>x": 4, "<a><b/>": 7, "<a><b></b>": 10, "<a><b>": 6,
	} {
		wantParse(t, s, place, api.ErrForm)
	}
}

// 2.2: MaxDepth and MaxKids, at the limit and one past it, and the open mark's place.
func TestParseLong(t *testing.T) {
	deep := func(n int) string { return strings.Repeat("<a>", n-1) + "<b/>" + strings.Repeat("</a>", n-1) }
	wide := func(n int) string { return "<a><a>" + strings.Repeat("<b/>", n) + "</a></a>" }
	if x, at, e := tree.Parse(deep(api.MaxDepth)); e != api.OK || at != 0 || tree.Depth(x) != api.MaxDepth {
		t.Errorf("Parse of MaxDepth levels: %d, %v", at, e)
	}
	if x, at, e := tree.Parse(wide(api.MaxKids)); e != api.OK || at != 0 || tree.Count(x) != api.MaxKids+2 {
		t.Errorf("Parse of MaxKids kids: %d, %v", at, e)
	}
	wantParse(t, deep(api.MaxDepth+1), 3*api.MaxDepth, api.ErrLong)
	wantParse(t, deep(api.MaxDepth+2), 3*api.MaxDepth, api.ErrLong)
	wantParse(t, wide(api.MaxKids+1), 6+4*api.MaxKids, api.ErrLong)
	wantParse(t, wide(api.MaxKids+9), 6+4*api.MaxKids, api.ErrLong)
	wantParse(t, strings.Repeat("<a>", api.MaxDepth)+"x<b/>", 3*api.MaxDepth+1, api.ErrForm)
	s := "<a>" + strings.Repeat("x", api.MaxText-7) + "</a>"
	if x, at, e := tree.Parse(s); e != api.OK || at != 0 || len(x.Text) != api.MaxText-7 {
		t.Errorf("Parse of MaxText bytes: %d, %v", at, e)
	}
}

// 2.2: a mark counts as it comes: what is too deep, or one too many, is told ahead of what is wrong behind it.
func TestParseFirst(t *testing.T) {
	wantParse(t, strings.Repeat("<a>", api.MaxDepth+1)+"</b>", 3*api.MaxDepth, api.ErrLong)
	wantParse(t, "<a>"+strings.Repeat("<b/>", api.MaxKids+1), 3+4*api.MaxKids, api.ErrLong)
	wantParse(t, "<a></b>"+strings.Repeat("<a>", api.MaxDepth+1), 3, api.ErrForm)
}

// 2.3: attributes.
func TestGet(t *testing.T) {
	e := tree.Elem{Name: "a", Attrs: []mark.Attr{{Name: "b", Value: "1"}, {Name: "c"}, {Name: "b", Value: "2"}, {Name: "", Value: "3"}}}
	for name, want := range map[string]string{"b": "1", "c": "", "": "3"} {
		if v, ok := tree.Get(e, name); v != want || !ok {
			t.Errorf("Get %q: %q, %v", name, v, ok)
		}
	}
	for _, name := range []string{"a", "B", "d", "bc"} {
		if v, ok := tree.Get(e, name); v != "" || ok {
			t.Errorf("Get %q: %q, %v", name, v, ok)
		}
	}
	if v, ok := tree.Get(tree.Elem{}, ""); v != "" || ok {
		t.Errorf("Get of no attribute: %q, %v", v, ok)
	}
}

// 2.3: how many elements, and how deep, whether they are right or not.
func TestMeasure(t *testing.T) {
	for _, c := range []struct {
		e           tree.Elem
		count, deep int
	}{
		{tree.Elem{}, 1, 1},
		{elem("a", elem("b"), elem("c")), 3, 2},
		{elem("a", elem("b", elem("c"), elem("d", elem("e"))), elem("f")), 6, 4},
		{elem("a", elem("f"), elem("b", elem("c"))), 4, 3},
		{row(500), 501, 2},
		{nest(999), 999, 999},
		{nest(1000), 1000, 1000},
		{elem("a", nest(999), nest(999), elem("b")), 2000, 1000},
	} {
		if n := tree.Count(c.e); n != c.count {
			t.Errorf("Count: %d; want %d", n, c.count)
		}
		if n := tree.Depth(c.e); n != c.deep {
			t.Errorf("Depth: %d; want %d", n, c.deep)
		}
	}
}

// P3: calls end, however deep elements lie, and even if they lie in themselves.
func TestEnds(t *testing.T) {
	for what, e := range map[string]tree.Elem{"a million levels": nest(1000000), "itself": round(1), "themselves": round(api.MaxKids)} {
		wantError(t, what, e, api.ErrLong)
		tree.Depth(e)
	}
	tree.Count(nest(1000000))
	tree.Count(round(1))
	wantError(t, "too many that lie in themselves", round(api.MaxKids+1), api.ErrLong)
	for _, s := range []string{strings.Repeat("<a>", 6000), strings.Repeat("</a>", 5000), strings.Repeat("<a/>", 5000), strings.Repeat("&", 20000)} {
		tree.Parse(s)
	}
}

func anyText(r *rand.Rand, least int) string {
	b := make([]byte, least+r.Intn(6))
	for i := range b {
		b[i] = "ab<>&\"'=/; \n~"[r.Intn(13)]
	}
	return string(b)
}

func anyElem(r *rand.Rand, levels int) tree.Elem {
	e := elem([]string{"a", "b-1", "abcdefghijklmnopqrstuvwx"}[r.Intn(3)])
	for i := range r.Intn(3) {
		e.Attrs = append(e.Attrs, mark.Attr{Name: "n" + strconv.Itoa(i), Value: anyText(r, 0)})
	}
	if levels == 1 || r.Intn(4) == 0 {
		if r.Intn(2) == 0 {
			e.Text = anyText(r, 1)
		}
		return e
	}
	for range r.Intn(4) {
		e.Kids = append(e.Kids, anyElem(r, levels-1))
	}
	return e
}

// 2.4: what was written is parsed, as it was.
func TestWrittenIsParsed(t *testing.T) {
	r := rand.New(rand.NewSource(2))
	for range 3000 {
		e := anyElem(r, 1+r.Intn(5))
		s, err := tree.Write(e)
		if err != api.OK {
			t.Fatalf("Write(%v): %v", e, err)
		}
		if x, at, err := tree.Parse(s); err != api.OK || at != 0 || !reflect.DeepEqual(x, e) {
			t.Fatalf("Parse(%q): %v, %d, %v; want %v", s, x, at, err, e)
		}
	}
}

// R3: no two lists of an answer share memory, spare room too; what is handed in is not changed.
func TestMemory(t *testing.T) {
	const s = "<a><b c=\"1\"><d/><d/><d/></b><b c=\"2\"><d/></b><b/></a>"
	x, _, _ := tree.Parse(s)
	for i := range x.Kids {
		k := &x.Kids[i]
		k.Kids = append(k.Kids, elem("e"), elem("f"))
		k.Attrs = append(k.Attrs, mark.Attr{Name: "g"}, mark.Attr{Name: "h"})
	}
	x.Kids = append(x.Kids, elem("i"))
	want := "<a><b c=\"1\" g=\"\" h=\"\"><d/><d/><d/><e/><f/></b><b c=\"2\" g=\"\" h=\"\"><d/><e/><f/></b><b g=\"\" h=\"\"><e/><f/></b><i/></a>"
	if w, err := tree.Write(x); w != want || err != api.OK {
		t.Errorf("Write: %q, %v", w, err)
	}
	room := []tree.Elem{elem("b"), elem("spare")}
	e := elem("a", room[:1]...)
	tree.Write(e)
	if e.Kids[0].Name != "b" || room[1].Name != "spare" {
		t.Errorf("%v, %v", e, room)
	}
}
