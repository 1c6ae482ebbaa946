package mark_test

import (
	"math/rand"
	"reflect"
	"strconv"
	"strings"
	"testing"

	"treenail/api"
	"treenail/mark"
)

func open(at int, name string, attrs ...mark.Attr) mark.Mark {
	return mark.Mark{Kind: mark.Open, At: at, Name: name, Attrs: attrs}
}

func shut(at int, name string) mark.Mark {
	return mark.Mark{Kind: mark.Close, At: at, Name: name}
}

func text(at int, s string) mark.Mark {
	return mark.Mark{Kind: mark.Text, At: at, Text: s}
}

func same(a, b []mark.Mark) bool {
	return len(a) == 0 && len(b) == 0 || reflect.DeepEqual(a, b)
}

func wantForm(t *testing.T, s string, place int) {
	t.Helper()
	if l, at, e := mark.Read(s); len(l) != 0 || at != place || e != api.ErrForm {
		t.Errorf("Read(%.60q): %v, %d, %v; want ErrForm at %d", s, l, at, e, place)
	}
}

// attrs are so many attributes of unlike names, as a text.
func attrs(n int) string {
	var b strings.Builder
	for i := range n {
		b.WriteString(" a" + strconv.Itoa(i) + "=\"" + strconv.Itoa(i) + "\"")
	}
	return b.String()
}

// 1.1: ordinary texts.
func TestRead(t *testing.T) {
	for s, want := range map[string][]mark.Mark{
		"":                      nil,
		"x":                     {text(0, "x")},
		"<a b=\"1&lt;\"/>":      {open(0, "a", mark.Attr{Name: "b", Value: "1<"}), shut(0, "a")},
		"<a/><b/>":              {open(0, "a"), shut(0, "a"), open(4, "b"), shut(4, "b")},
		"</a>x<a>":              {shut(0, "a"), text(4, "x"), open(5, "a")},
		"a>\"\n'":               {text(0, "a>\"\n'")},
		"<a b=\">\n/\">":        {open(0, "a", mark.Attr{Name: "b", Value: ">\n/"})},
		"<a-1 b-=\"\" b=\"\">":  {open(0, "a-1", mark.Attr{Name: "b-"}, mark.Attr{Name: "b"})},
		"&lt;&gt;&amp;&quot;":   {text(0, "<>&\"")},
		"&amp;lt;":              {text(0, "&lt;")},
		"<a b=\"&quot;&amp;\">": {open(0, "a", mark.Attr{Name: "b", Value: "\"&"})},
	} {
		if l, at, e := mark.Read(s); e != api.OK || at != 0 || !same(l, want) {
			t.Errorf("Read(%q): %v, %d, %v; want %v", s, l, at, e, want)
		}
	}
}

// 1.1: what is no mark, and its place.
func TestReadForm(t *testing.T) {
	for s, place := range map[string]int{
		"<": 0, "<a": 0, "<a ": 0, "<a >": 0, "<a b>": 0, "<a b=1>": 0, "<a b=\"1>": 0, "<a b=\"1\" >": 0,
		"<a b=\"1\"c=\"2\">": 0, "<a  b=\"1\">": 0, "<a\nb=\"1\">": 0, "<a b =\"1\">": 0, "<a b= \"1\">": 0, "<a b='1'>": 0,
		"< a>": 0, "<a/": 0, "<a/ >": 0, "<a //>": 0, "<A>": 0, "<-a>": 0, "<1>": 0, "<>": 0, "</>": 0, "</": 0, "</ a>": 0,
		"</a >": 0, "</a/>": 0, "</a b=\"\">": 0, "</a": 0, "<a B=\"\">": 0, "<a 1=\"\">": 0, "<a =\"\">": 0,
		"<a b=\"<\">": 0, "<a b=\"&\">": 0, "<a b=\"&lt\">": 0, "<a b=\"\t\">": 0, "<a b=\"\" c=\"\" b=\"x\"/>": 0,
		"&": 0, "&lt": 0, "&LT;": 0, "&apos;": 0, "&#60;": 0, "&;": 0, "x&y<a>": 0, "\x1f": 0, "\x7f": 0, "\t": 0, "\r": 0,
		"\u00e9": 0, "\xff": 0, "xy\x00": 0, "<!-- -->": 0, "<?a?>": 0,
		"<a>x&<b>": 3, "<a/><": 4, "<a/>x<": 5, "<a></A>": 3, "ab<a b>": 2, "<a>\n\x80": 3, "<a>x</b></": 8,
	} {
		wantForm(t, s, place)
	}
}

// 1.1: MaxText, at the limit and one past it; ErrLong goes ahead of ErrForm.
func TestReadLong(t *testing.T) {
	s := strings.Repeat("x", api.MaxText)
	if l, at, e := mark.Read(s); e != api.OK || at != 0 || !same(l, []mark.Mark{text(0, s)}) {
		t.Errorf("Read of MaxText bytes: %d, %v", at, e)
	}
	wantForm(t, s[1:]+"<", api.MaxText-1)
	for _, s := range []string{s + "x", s + "<", "<" + s} {
		if l, at, e := mark.Read(s); len(l) != 0 || at != 0 || e != api.ErrLong {
			t.Errorf("Read of a byte more: %d, %v", at, e)
		}
	}
}

// 1.1: MaxName and MaxKids, at the limit and one past it.
func TestReadLimits(t *testing.T) {
	n := strings.Repeat("a", api.MaxName)
	for _, s := range []string{"<" + n + ">", "</" + n + ">", "<a " + n + "=\"\">", "<a" + attrs(api.MaxKids) + ">", "<a" + attrs(api.MaxKids) + "/>"} {
		if l, at, e := mark.Read(s); e != api.OK || at != 0 || len(l) == 0 {
			t.Errorf("Read(%.60q): %d, %v", s, at, e)
		}
	}
	for _, s := range []string{"<" + n + "a>", "</" + n + "a>", "<a " + n + "a=\"\">", "<a" + attrs(api.MaxKids+1) + ">", "<a" + attrs(api.MaxKids+1) + "/>"} {
		wantForm(t, "x"+s, 1)
	}
	l, _, _ := mark.Read("<a" + attrs(api.MaxKids) + "/>")
	if len(l) != 2 || len(l[0].Attrs) != api.MaxKids || l[0].Attrs[63] != (mark.Attr{Name: "a63", Value: "63"}) {
		t.Errorf("Read of MaxKids attributes: %v", l)
	}
}

// 1.2: which bytes are plain, and which are escaped; of Escape, of Read and of Write.
func TestBytes(t *testing.T) {
	for b := range 256 {
		s := string([]byte{byte(b)})
		want, ok := s, b >= 32 && b <= 126 || b == 10
		switch s {
		case "<":
			want = "&lt;"
		case ">":
			want = "&gt;"
		case "&":
			want = "&amp;"
		case "\"":
			want = "&quot;"
		}
		x, e := mark.Escape(s)
		w, we := mark.Write(text(0, s))
		a, ae := mark.Write(open(0, "a", mark.Attr{Name: "b", Value: s}))
		if ok && (x != want || w != want || a != "<a b=\""+want+"\">" || e != api.OK || we != api.OK || ae != api.OK) {
			t.Errorf("byte %d: %q, %v, %q, %v, %q, %v", b, x, e, w, we, a, ae)
		}
		if !ok && (x != "" || w != "" || a != "" || e != api.ErrForm || we != api.ErrForm || ae != api.ErrForm) {
			t.Errorf("byte %d: %q, %v, %q, %v, %q, %v; want ErrForm", b, x, e, w, we, a, ae)
		}
		if _, _, e := mark.Read(s); (e == api.OK) != (ok && s != "<" && s != "&") {
			t.Errorf("Read of the byte %d: %v", b, e)
		}
	}
}

// 1.2: longer texts.
func TestEscape(t *testing.T) {
	for s, want := range map[string]string{"": "", "a<b>&\"\n": "a&lt;b&gt;&amp;&quot;\n", "&lt;": "&amp;lt;", "it's": "it's"} {
		if x, e := mark.Escape(s); x != want || e != api.OK {
			t.Errorf("Escape(%q): %q, %v", s, x, e)
		}
	}
	for _, s := range []string{"ab\x00", "\x7fab", "a\tb", "<\u00e9>", "a\xffb"} {
		if x, e := mark.Escape(s); x != "" || e != api.ErrForm {
			t.Errorf("Escape(%q): %q, %v", s, x, e)
		}
	}
}

// 1.2: names.
func TestName(t *testing.T) {
	for _, s := range []string{"a", "z", "a0", "z9", "a-", "a--b", "abcdefghijklmnopqrstuvwx"} {
		if !mark.Name(s) {
			t.Errorf("Name(%q): false", s)
		}
	}
	for _, s := range []string{"", "0", "9a", "-", "-a", "A", "aB", "a_", "a b", " a", "a\n", "`", "{", "a/", "a:", "a\u00e9", "a\xff", "abcdefghijklmnopqrstuvwxy", strings.Repeat("a", 100)} {
		if mark.Name(s) {
			t.Errorf("Name(%q): true", s)
		}
	}
}

// 1.2: a mark's bytes.
func TestWrite(t *testing.T) {
	for _, c := range []struct {
		m    mark.Mark
		want string
	}{
		{open(0, "a"), "<a>"},
		{open(-7, "a-b", mark.Attr{Name: "c", Value: "<>&\"\n'"}, mark.Attr{Name: "d"}), "<a-b c=\"&lt;&gt;&amp;&quot;\n'\" d=\"\">"},
		{shut(3, "a"), "</a>"},
		{text(0, "a > b"), "a &gt; b"},
		{mark.Mark{Kind: mark.Close, Name: "a", Attrs: []mark.Attr{}}, "</a>"},
	} {
		if s, e := mark.Write(c.m); s != c.want || e != api.OK {
			t.Errorf("Write(%v): %q, %v", c.m, s, e)
		}
	}
	long := strings.Repeat("x", api.MaxText+1)
	if s, e := mark.Write(text(0, long)); s != long || e != api.OK {
		t.Errorf("Write of a text of more than MaxText bytes: %v", e)
	}
}

// 1.2: what has no bytes.
func TestWriteWrong(t *testing.T) {
	b := mark.Attr{Name: "b"}
	wrong := []mark.Mark{
		open(0, ""), open(0, "A"), open(0, strings.Repeat("a", 25)), open(0, "a", mark.Attr{}), open(0, "a", mark.Attr{Name: "1"}),
		open(0, "a", mark.Attr{Name: "b", Value: "\x00"}), open(0, "a", b, mark.Attr{Name: "c"}, mark.Attr{Name: "b", Value: "x"}),
		{Kind: mark.Open, Name: "a", Text: "x"},
		shut(0, ""), shut(0, "a b"), {Kind: mark.Close, Name: "a", Text: "x"}, {Kind: mark.Close, Name: "a", Attrs: []mark.Attr{b}},
		text(0, ""), text(0, "a\x7f"), {Kind: mark.Text, Text: "x", Name: "a"}, {Kind: mark.Text, Text: "x", Attrs: []mark.Attr{b}},
	}
	for _, m := range wrong {
		if s, e := mark.Write(m); s != "" || e != api.ErrForm {
			t.Errorf("Write(%v): %q, %v; want ErrForm", m, s, e)
		}
	}
	for _, kind := range []int{-1, 0, 4, 1 << 40} {
		for _, m := range append(wrong, open(0, "a")) {
			m.Kind = kind
			if s, e := mark.Write(m); s != "" || e != api.ErrArg {
				t.Errorf("Write(%v): %q, %v; want ErrArg", m, s, e)
			}
		}
	}
}

// 1.2: MaxKids attributes, and one more.
func TestWriteLimits(t *testing.T) {
	l, _, _ := mark.Read("<a" + attrs(api.MaxKids) + ">")
	if len(l) != 1 {
		t.Fatal("no mark")
	}
	if s, e := mark.Write(l[0]); s != "<a"+attrs(api.MaxKids)+">" || e != api.OK {
		t.Errorf("Write of MaxKids attributes: %q, %v", s, e)
	}
	l[0].Attrs = append(l[0].Attrs, mark.Attr{Name: "b"})
	if s, e := mark.Write(l[0]); s != "" || e != api.ErrForm {
		t.Errorf("Write of an attribute more: %q, %v", s, e)
	}
}

func pick(r *rand.Rand, from string, least, most int) string {
	b := make([]byte, least+r.Intn(most-least+1))
	for i := range b {
		b[i] = from[r.Intn(len(from))]
	}
	return string(b)
}

func anyName(r *rand.Rand) string {
	return pick(r, "abyz", 1, 1) + pick(r, "az09-", 0, api.MaxName-1)
}

func anyMark(r *rand.Rand) mark.Mark {
	const bytes = "a<>&\"'=/; \n~;lt"
	m := mark.Mark{Kind: 1 + r.Intn(3)}
	if m.Kind == mark.Text {
		m.Text = pick(r, bytes, 1, 9)
		return m
	}
	m.Name = anyName(r)
	if m.Kind == mark.Open {
		for i := range r.Intn(4) {
			m.Attrs = append(m.Attrs, mark.Attr{Name: pick(r, "abc", 1, 5) + strconv.Itoa(i), Value: pick(r, bytes, 0, 9)})
		}
	}
	return m
}

// 1.3: what was written is read, whichever marks stand one behind the other.
func TestWrittenIsRead(t *testing.T) {
	r := rand.New(rand.NewSource(1))
	for range 3000 {
		var s string
		var want []mark.Mark
		for range r.Intn(12) {
			m := anyMark(r)
			if m.Kind == mark.Text && len(want) > 0 && want[len(want)-1].Kind == mark.Text {
				continue
			}
			m.At = len(s)
			w, e := mark.Write(m)
			if e != api.OK {
				t.Fatalf("Write(%v): %v", m, e)
			}
			s, want = s+w, append(want, m)
		}
		if l, at, e := mark.Read(s); e != api.OK || at != 0 || !same(l, want) {
			t.Fatalf("Read(%q): %v, %d, %v; want %v", s, l, at, e, want)
		}
	}
}

// R3: no two lists of an answer share memory, spare room too, and what is handed in is not changed.
func TestMemory(t *testing.T) {
	const s = "<a b=\"1\" c=\"2\" d=\"3\"><a e=\"1\" f=\"2\" g=\"3\"/>"
	l, _, _ := mark.Read(s)
	other, _, _ := mark.Read(s)
	if len(l) != 3 {
		t.Fatal(l)
	}
	for i := range l {
		_ = append(l[i].Attrs[:cap(l[i].Attrs)], mark.Attr{Name: "x"})
		l[i].Attrs = append(l[i].Attrs, mark.Attr{Name: "y"}, mark.Attr{Name: "z"})
	}
	again, _, _ := mark.Read(s)
	if l[0].Attrs[3].Name != "y" || l[1].Attrs[0].Name != "e" || l[1].Attrs[3].Name != "y" || !same(other, again) {
		t.Errorf("%v, %v", l, other)
	}
	room := []mark.Attr{{Name: "b", Value: "<"}, {Name: "spare"}}
	mark.Write(open(0, "a", room[:1]...))
	if room[0] != (mark.Attr{Name: "b", Value: "<"}) || room[1] != (mark.Attr{Name: "spare"}) {
		t.Errorf("%v", room)
	}
}
