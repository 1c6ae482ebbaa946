package page_test

import (
	"fmt"
	"math/rand"
	"reflect"
	"regexp"
	"slices"
	"strconv"
	"strings"
	"testing"

	"treenail/api"
	"treenail/bpel"
	"treenail/chart"
	"treenail/mark"
	"treenail/page"
	"treenail/sample"
	"treenail/term"
	"treenail/tree"
)

var kindNames = strings.Fields("- empty invoke assign receive wait sequence flow if pick on loop gate web rules")

func termText(x api.Term) string {
	s, _ := term.Text(x)
	return s
}

// written is a program's text, put together by hand.
func written(a bpel.Act) string {
	name := kindNames[a.Kind]
	s := "<" + name
	if !slices.Contains(strings.Fields("empty sequence flow web rules"), name) {
		s += fmt.Sprintf(` node="%d"`, a.Node)
	}
	other := -1
	switch {
	case name == "invoke":
		s += fmt.Sprintf(` var="%d"`, a.A)
	case name == "assign":
		s += fmt.Sprintf(` var="%d" value="%s"`, a.A, termText(a.Term))
	case name == "receive", name == "on" && a.A != 4:
		s += fmt.Sprintf(` message="%d"`, a.A)
	case name == "gate" && a.A == 3:
		s, other = s+fmt.Sprintf(` kind="3" else="%d"`, a.B), a.B
	case name == "gate":
		s += fmt.Sprintf(` kind="%d"`, a.A)
	case name == "if":
		s, other = s+fmt.Sprintf(` else="%d"`, a.A), a.A
	case name == "loop":
		s, other = s+fmt.Sprintf(` else="%d" leaves="%d"`, a.A, a.B), a.A
	}
	for i, c := range a.Conds {
		if i != other {
			s += fmt.Sprintf(` c%d="%s"`, i, termText(c))
		}
	}
	inner := ""
	for _, k := range a.Kids {
		inner += written(k)
	}
	for _, l := range a.Links {
		inner += strings.ReplaceAll(strings.ReplaceAll(fmt.Sprintf(`<link from="%d" to="%d"/>`, l.From, l.To), ` from="-1"`, ""), ` to="-1"`, "")
	}
	if name == "rules" {
		process, _ := chart.Write(a.Net)
		inner += process
	}
	if inner == "" {
		return s + "/>"
	}
	return s + ">" + inner + "</" + name + ">"
}

// 17.1, 17.2, 17.3: any programs are written as they are by hand, and read again.
func TestAnyPrograms(t *testing.T) {
	r := rand.New(rand.NewSource(17))
	full := 0
	for range 3000 {
		a := sample.Program(r.Intn)
		want := written(a)
		e, err := page.Elem(a)
		if err != api.OK {
			t.Fatalf("Elem of %s: %v", want, err)
		}
		if back, err := page.Act(e); err != api.OK || !bpel.Same(back, a) {
			t.Fatalf("Act of %s: %v, %v", want, back, err)
		}
		s, err := page.Write(a)
		if text, e := tree.Write(e); text != s || e != err {
			t.Fatalf("Write of %s: %v; want %v", want, err, e)
		}
		if err != api.OK {
			full++
			continue
		}
		if s != want {
			t.Fatalf("Write: %s; want %s", s, want)
		}
		if back, at, err := page.Read(s); err != api.OK || at != 0 || !bpel.Same(back, a) {
			t.Fatalf("Read(%s): %v, %d, %v", s, back, at, err)
		}
	}
	if full > 300 {
		t.Errorf("%d could not be written", full)
	}
}

// number is a number's text; heads are what elements have ahead of their conds, as the document has it.
const number = `"(0|[1-9][0-9]?)"`

var heads = map[string]*regexp.Regexp{
	"empty": head(``), "sequence": head(``), "flow": head(``), "web": head(``), "rules": head(``), "wait": head(` node=#`), "pick": head(` node=#`),
	"invoke": head(` node=# var=#`), "assign": head(` node=# var=# value="([^"]*)"`), "receive": head(` node=# message=#`), "on": head(` node=#(?: message=#)?`),
	"if": head(` node=# else=#((?: c[0-9]+="[^"]*")*)`), "loop": head(` node=# else=# leaves=#((?: c[0-9]+="[^"]*")*)`),
	"gate": head(` node=# kind=(?:"3" else=#((?: c[0-9]+="[^"]*")*)|#)`), "link": head(`(?: from=#)?(?: to=#)?`),
}

func head(s string) *regexp.Regexp {
	return regexp.MustCompile("^" + strings.ReplaceAll(s, "#", number) + "$")
}

func attrsText(e tree.Elem) string {
	s := ""
	for _, a := range e.Attrs {
		s += " " + a.Name + `="` + a.Value + `"`
	}
	return s
}

// get is the number of an attribute; else, if there is none.
func get(e tree.Elem, name string, without int) int {
	if s, ok := tree.Get(e, name); ok {
		n, _ := strconv.Atoi(s)
		return n
	}
	return without
}

// expected is the activity of an element, whether it is right or not; false, if it is none's.
func expected(e tree.Elem) (bpel.Act, bool) {
	kind := slices.Index(kindNames, e.Name)
	if kind < 1 || e.Text != "" || !heads[e.Name].MatchString(attrsText(e)) {
		return bpel.Act{}, false
	}
	a := bpel.Act{Kind: kind, Node: get(e, "node", 0)}
	a.A = get(e, "var", 0) + get(e, "message", 0) + get(e, "kind", 0)
	other := get(e, "else", -1)
	switch e.Name {
	case "assign":
		value, _ := tree.Get(e, "value")
		x, err := term.Parse(value)
		if a.Term = x; err != api.OK {
			return bpel.Act{}, false
		}
	case "on":
		message, ok := tree.Get(e, "message")
		if message == "4" {
			return bpel.Act{}, false
		}
		if !ok {
			a.A = 4
		}
	case "if", "loop":
		a.A, a.B = other, get(e, "leaves", 0)
	case "gate":
		a.B = max(other, 0)
	}
	conds, ok := expectedConds(e, other)
	if a.Conds = conds; !ok || !expectedKids(&a, e) {
		return bpel.Act{}, false
	}
	return a, true
}

func expectedConds(e tree.Elem, other int) ([]api.Term, bool) {
	if other < 0 {
		return nil, true
	}
	at := slices.IndexFunc(e.Attrs, func(a mark.Attr) bool { return a.Name[0] == 'c' })
	if at < 0 {
		at = len(e.Attrs)
	}
	var l []api.Term
	for _, a := range e.Attrs[at:] {
		x, err := term.Parse(a.Value)
		// Behind the else one all stand one place further on.
		place := len(l)
		if place >= other {
			place++
		}
		if a.Name != fmt.Sprint("c", place) || place > 63 || err != api.OK {
			return nil, false
		}
		l = append(l, x)
	}
	if other <= len(l) {
		return slices.Insert(l, other, api.Term{}), true
	}
	return l, other == len(l)+1
}

func expectedKids(a *bpel.Act, e tree.Elem) bool {
	if e.Name == "rules" {
		if len(e.Kids) != 1 {
			return false
		}
		n, why := chart.Net(e.Kids[0])
		a.Net = n
		return why == 0
	}
	for _, k := range e.Kids {
		if e.Name == "web" && k.Name == "link" {
			if k.Text != "" || len(k.Kids) > 0 || !heads["link"].MatchString(attrsText(k)) {
				return false
			}
			a.Links = append(a.Links, bpel.Link{From: get(k, "from", -1), To: get(k, "to", -1)})
			continue
		}
		kid, ok := expected(k)
		if !ok || len(a.Links) > 0 {
			return false
		}
		a.Kids = append(a.Kids, kid)
	}
	return true
}

// elems are an element and all in it.
func elems(e *tree.Elem) []*tree.Elem {
	l := []*tree.Elem{e}
	for i := range e.Kids {
		l = append(l, elems(&e.Kids[i])...)
	}
	return l
}

func copied(e tree.Elem) tree.Elem {
	e.Attrs, e.Kids = slices.Clone(e.Attrs), slices.Clone(e.Kids)
	for i := range e.Kids {
		e.Kids[i] = copied(e.Kids[i])
	}
	return e
}

// alter changes something of an element, or of one in it.
func alter(e *tree.Elem, r *rand.Rand) {
	l := elems(e)
	x, y := l[r.Intn(len(l))], copied(*l[r.Intn(len(l))])
	if r.Intn(2) == 0 {
		alterAttrs(x, r)
		return
	}
	switch r.Intn(8) {
	case 0:
		x.Name = append(kindNames, "link", "process", "task")[r.Intn(18)]
	case 1:
		x.Text = []string{"", " ", "x"}[r.Intn(3)]
	case 2:
		x.Kids = x.Kids[:r.Intn(len(x.Kids)+1)]
	case 3:
		x.Kids = append(x.Kids, y)
	case 4:
		*x = y
	case 5:
		if len(x.Kids) > 1 {
			i, j := r.Intn(len(x.Kids)), r.Intn(len(x.Kids))
			x.Kids[i], x.Kids[j] = x.Kids[j], x.Kids[i]
		}
	case 6:
		if len(x.Kids) > 0 {
			at := r.Intn(len(x.Kids))
			x.Kids = slices.Delete(x.Kids, at, at+1)
		}
	case 7:
		for range 30 * r.Intn(2) {
			x.Kids = append(x.Kids, copied(y))
		}
	}
}

func alterAttrs(x *tree.Elem, r *rand.Rand) {
	values := []string{"0", "1", "2", "3", "4", "5", "23", "24", "63", "64", "99", "100", "01", "", "-1", "(eq 1 1)", "(neg $0)", "(eq 1)"}
	names := strings.Fields("node var value message kind else leaves c0 c1 c2 c3 c63 c64 from to x")
	more := mark.Attr{Name: names[r.Intn(len(names))], Value: values[r.Intn(len(values))]}
	if len(x.Attrs) == 0 {
		x.Attrs = append(x.Attrs, more)
		return
	}
	i, j := r.Intn(len(x.Attrs)), r.Intn(len(x.Attrs))
	switch r.Intn(6) {
	case 0, 1:
		x.Attrs[i].Value = more.Value
	case 2:
		x.Attrs[i].Name = more.Name
	case 3:
		x.Attrs[i], x.Attrs[j] = x.Attrs[j], x.Attrs[i]
	case 4:
		x.Attrs = slices.Delete(x.Attrs, i, i+1)
	case 5:
		x.Attrs = slices.Insert(x.Attrs, i, more)
	}
}

// 17.2, 17.3: any elements: of programs, and what becomes of them if something is changed, more than once.
func TestAnyElems(t *testing.T) {
	r := rand.New(rand.NewSource(18))
	times, read := map[api.Errno]int{}, 0
	for range 3000 {
		e, _ := page.Elem(sample.Program(r.Intn))
		for range 6 {
			was := copied(e)
			a, ok := expected(e)
			want := api.ErrForm
			if ok {
				want = bpel.Check(a)
			}
			if want != api.OK {
				a = bpel.Act{}
			}
			times[want]++
			got, err := page.Act(e)
			if err != want || !bpel.Same(got, a) || !reflect.DeepEqual(e, was) {
				t.Fatalf("Act of %s: %v, %v; want %v, %v", text(e), got, err, a, want)
			}
			if s, err := tree.Write(e); err == api.OK {
				got, at, err := page.Read(s)
				if err != want || at != 0 || !bpel.Same(got, a) {
					t.Fatalf("Read(%s): %v, %d, %v; want %v, %v", s, got, at, err, a, want)
				}
				if again, _ := page.Write(got); want == api.OK && again != s {
					t.Fatalf("Write: %s; want %s", again, s)
				}
				read++
			}
			alter(&e, r)
		}
	}
	for _, err := range []api.Errno{api.OK, api.ErrLong, api.ErrForm, api.ErrSame} {
		if times[err] < 100 {
			t.Errorf("%v: %d times", err, times[err])
		}
	}
	if read < 5000 {
		t.Errorf("%d were read", read)
	}
}
