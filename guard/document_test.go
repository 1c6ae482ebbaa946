package guard_test

import (
	"fmt"
	"reflect"
	"slices"
	"strconv"
	"strings"
	"testing"

	"treenail/api"
	"treenail/bpel"
	"treenail/guard"
	"treenail/page"
	"treenail/tree"
)

// wantRead is that a text is a program's document.
func wantRead(t *testing.T, s string, want guard.Program) {
	t.Helper()
	if p, at, err := guard.Read(s); !reflect.DeepEqual(p, want) || at != 0 || err != api.OK {
		t.Errorf("Read(%.200s): %v, %d, %v; want %v", s, p, at, err, want)
	}
}

// wantNoDocument is that a text is none.
func wantNoDocument(t *testing.T, s string, place int, want api.Errno) {
	t.Helper()
	if p, at, err := guard.Read(s); !reflect.DeepEqual(p, guard.Program{}) || at != place || err != want {
		t.Errorf("Read(%.200s): %v, %d, %v; want %d, %v", s, p, at, err, place, want)
	}
}

// wantWritten is that a program has a document, which is read as the program.
func wantWritten(t *testing.T, p guard.Program, want string) {
	t.Helper()
	if s, err := guard.Write(p); s != want || err != api.OK {
		t.Errorf("Write: %s, %v; want %s", s, err, want)
	}
	wantRead(t, want, p)
}

func wantNotWritten(t *testing.T, what string, p guard.Program, want api.Errno) {
	t.Helper()
	if err := guard.Check(p); err != api.OK {
		t.Errorf("Check of %s: %v", what, err)
	}
	if s, err := guard.Write(p); s != "" || err != want {
		t.Errorf("Write of %s: %d bytes, %v; want %v", what, len(s), err, want)
	}
}

// 30.3, 30.6: documents of programs of all kinds.
func TestDocuments(t *testing.T) {
	wantWritten(t, guard.Program{Main: empty()}, "<guarded><empty/></guarded>")
	wantWritten(t, caught(guard.Handler{Act: wait(2)}), `<guarded><assign node="1" var="1" value="(div 7 $0)"/><catch><wait node="2"/></catch></guarded>`)
	wantWritten(t, caught(guard.Handler{Code: 41, Act: wait(2)}, guard.Handler{Code: 40, Act: empty()}, guard.Handler{Act: wait(0)}),
		`<guarded><assign node="1" var="1" value="(div 7 $0)"/><catch code="41"><wait node="2"/></catch><catch code="40"><empty/></catch><catch><wait node="0"/></catch></guarded>`)
	wantWritten(t, guard.Program{Main: read(t, rules), Catch: catches(guard.Handler{Code: 40, Act: read(t, web)}, guard.Handler{Act: read(t, loop)})},
		"<guarded>"+rules+`<catch code="40">`+web+"</catch><catch>"+loop+"</catch></guarded>")
	wantWritten(t, guard.Program{Main: read(t, choice), Catch: catches(guard.Handler{Act: read(t, rules[:strings.Index(rules, "<event/>")]+`<end/><flow from="0" to="1"/></process></rules>`)}, guard.Handler{Code: 41, Act: read(t, pick)})},
		"<guarded>"+choice+`<catch><rules><process><start/><end/><flow from="0" to="1"/></process></rules></catch><catch code="41">`+pick+"</catch></guarded>")
	// An element without kids may be written with a close mark, as layer 1 says.
	wantRead(t, `<guarded><empty></empty><catch code="41"><empty></empty></catch></guarded>`, guard.Program{Main: empty(), Catch: catches(guard.Handler{Code: 41, Act: empty()})})
}

// 30.3: tree.Parse's error, and its place.
func TestNoElement(t *testing.T) {
	for _, s := range []string{"", "guarded", "<guarded>", "<guarded><empty/></guarde>", "<guarded><empty/></guarded> ", "<guarded>x<empty/></guarded>", "<guarded><empty/>\n</guarded>", "<guarded/><guarded/>", "<guarded><catch></guarded>",
		strings.Repeat("<guarded>", 25), strings.Repeat("x", api.MaxText+1), "<guarded>" + strings.Repeat("<empty/>", 65) + "</guarded>", "<guarded><empty/>\xff</guarded>", `<guarded a="1" a="2"><empty/></guarded>`} {
		_, place, want := tree.Parse(s)
		if want == api.OK {
			t.Errorf("Parse(%.80s): OK", s)
		}
		wantNoDocument(t, s, place, want)
	}
}

// 30.3: ErrForm, if it is no guarded program's document.
func TestNoDocument(t *testing.T) {
	for _, s := range []string{
		"<empty/>", "<guarded/>", "<guard><empty/></guard>", "<Guarded><empty/></Guarded>", "<guarded>text</guarded>", `<guarded a="1"><empty/></guarded>`, `<guarded code="41"><empty/></guarded>`,
		"<catch><empty/></catch>", "<guarded><catch><empty/></catch></guarded>", "<guarded><catch><empty/></catch><empty/></guarded>", "<guarded><empty/><empty/></guarded>", "<guarded><guarded><empty/></guarded></guarded>",
		"<guarded><empty/><catch><empty/></catch><empty/></guarded>", "<guarded><empty/><catch/></guarded>", "<guarded><empty/><catch>x</catch></guarded>", "<guarded><empty/><catch><empty/><empty/></catch></guarded>", "<guarded><empty/><catch code=\"41\"/></guarded>",
		"<guarded><empty/><catcher><empty/></catcher></guarded>", "<guarded><empty/><catch><catch><empty/></catch></catch></guarded>", "<guarded><empty/><catch><guarded><empty/></guarded></catch></guarded>",
		"<guarded><on node=\"1\"><empty/></on></guarded>", "<guarded><wait/></guarded>", "<guarded><nothing/></guarded>", "<guarded><empty/><catch><nothing/></catch></guarded>", "<guarded><empty/><catch><gate node=\"1\" kind=\"1\"/></catch></guarded>",
		"<guarded><link to=\"0\"/></guarded>",
	} {
		wantNoDocument(t, s, 0, api.ErrForm)
	}
	for code, ok := range map[string]bool{"40": true, "41": true, "0": false, "": false, "42": false, "39": false, "1": false, "041": false, "+41": false, " 41": false, "41 ": false, "4": false, "401": false, "-1": false, "a": false, "$0": false, "1099511627776": false} {
		s := `<guarded><empty/><catch code="` + code + `"><wait node="1"/></catch></guarded>`
		if !ok {
			wantNoDocument(t, s, 0, api.ErrForm)
			continue
		}
		n, _ := strconv.Atoi(code)
		wantRead(t, s, guard.Program{Main: empty(), Catch: catches(guard.Handler{Code: n, Act: wait(1)})})
	}
	for _, attrs := range []string{` node="41"`, ` code="41" code1="41"`, ` a="1" code="41"`, ` code="41" node="1"`, ` codes="40"`, ` c="40"`} {
		wantNoDocument(t, `<guarded><empty/><catch`+attrs+`><empty/></catch></guarded>`, 0, api.ErrForm)
	}
}

// texts are elements that are no programs', by their errors.
func texts() map[api.Errno]string {
	return map[api.Errno]string{
		api.ErrForm: "<sequence><empty/></sequence>",
		api.ErrLong: "<flow>" + strings.Repeat("<flow>"+strings.Repeat("<empty/>", 50)+"</flow>", 2) + "</flow>",
		api.ErrSame: `<flow><wait node="20"/><wait node="20"/></flow>`,
	}
}

// 30.3: ErrForm, page.Act's errors, Main's first, then Check's, in this order.
func TestOrderOfErrors(t *testing.T) {
	catch := func(s string) string { return "<catch>" + s + "</catch>" }
	twice := catch(`<wait node="1"/>`) + catch(`<wait node="1"/>`)
	for want, a := range texts() {
		if _, err := page.Act(elem(t, a)); err != want {
			t.Errorf("%s: %v", a, err)
		}
		for other, b := range texts() {
			for _, s := range []string{a + catch(b), "<empty/>" + catch(a) + catch(b), "<empty/>" + twice + catch(a) + twice + catch(b), a + catch(b) + twice} {
				wantNoDocument(t, "<guarded>"+s+"</guarded>", 0, want)
				for _, wrong := range []string{"<catch/>", "<empty/>", `<catch code="42"><empty/></catch>`} {
					wantNoDocument(t, "<guarded>"+s+wrong+"</guarded>", 0, api.ErrForm)
				}
			}
			if other == want {
				wantNoDocument(t, "<guarded>"+a+strings.Repeat(catch("<empty/>"), 20)+"</guarded>", 0, want)
			}
		}
	}
	wantNoDocument(t, "<guarded><empty/>"+twice+"</guarded>", 0, api.ErrSame)
	wantNoDocument(t, `<guarded><wait node="1"/>`+catch(`<wait node="1"/>`)+"</guarded>", 0, api.ErrSame)
	wantNoDocument(t, `<guarded>`+rules+catch(`<wait node="0"/>`)+"</guarded>", 0, api.ErrSame)
	for count, want := range map[int]api.Errno{2: api.ErrSame, 8: api.ErrSame, 9: api.ErrFull, 63: api.ErrFull} {
		wantNoDocument(t, "<guarded><empty/>"+strings.Repeat(catch("<empty/>"), count)+"</guarded>", 0, want)
	}
}

// elem is the element of a text.
func elem(t *testing.T, s string) tree.Elem {
	t.Helper()
	e, at, err := tree.Parse(s)
	if err != api.OK {
		t.Fatalf("%s: %v at %d", s, err, at)
	}
	return e
}

// levels is an activity so many levels deep.
func levels(count int) bpel.Act {
	a := empty()
	for range count - 1 {
		a = bpel.Act{Kind: bpel.Flow, Kids: []bpel.Act{a, empty()}}
	}
	return a
}

// 30.3: ErrLong of tree.Write: elements that lie too deep, and too many kids of one.
func TestTooDeepToWrite(t *testing.T) {
	for main := 22; main <= 24; main++ {
		for caught := 21; caught <= 24; caught++ {
			p := guard.Program{Main: levels(main), Catch: catches(guard.Handler{Act: levels(caught)})}
			if main > 23 || caught > 22 {
				wantNotWritten(t, fmt.Sprint(main, " and ", caught, " levels"), p, api.ErrLong)
				continue
			}
			s, err := guard.Write(p)
			if err != api.OK {
				t.Errorf("%d and %d levels: %v", main, caught, err)
			}
			wantRead(t, s, p)
		}
	}
	row := bpel.Act{Kind: bpel.Web, Links: []bpel.Link{{From: -1}}}
	for i := range 39 {
		row.Kids = append(row.Kids, empty())
		row.Links = append(row.Links, bpel.Link{From: i, To: i + 1})
	}
	row.Links[39].To = -1
	wantNotWritten(t, "a Web of 79 kids", guard.Program{Main: row}, api.ErrLong)
	wantNotWritten(t, "a caught Web of 79 kids", guard.Program{Main: empty(), Catch: catches(guard.Handler{Act: row})}, api.ErrLong)
}

// long is an assignment whose element has so many bytes; at least 20 of 5000 or more.
func long(node, bytes int) bpel.Act {
	x := api.Term{Op: api.OpNum, N: 100000}
	sum := func(l []api.Term) api.Term {
		for len(l) > 1 {
			var next []api.Term
			for i := 0; i+1 < len(l); i += 2 {
				next = append(next, api.Term{Op: api.OpAdd, Kids: []api.Term{l[i], l[i+1]}})
			}
			l = append(next, l[len(next)*2:]...)
		}
		return l[0]
	}
	a := bpel.Act{Kind: bpel.Assign, Node: node}
	leaves := slices.Repeat([]api.Term{x}, bytes/13)
	for i := len(leaves) - 1; ; i-- {
		a.Term = sum(leaves)
		e, _ := page.Elem(a)
		size := len(e.Name) + len(`<  node="" var="0" value=""/>`) - 1 + len(strconv.Itoa(node)) + len(e.Attrs[2].Value)
		if size == bytes {
			return a
		}
		// One digit less at a time, or all but one of a number's.
		leaves[i].N = max(1, 100000/pow(size-bytes))
	}
}

func pow(n int) int {
	p := 1
	for range min(n, 5) {
		p *= 10
	}
	return p
}

// 30.3: ErrFull of tree.Write: a text of MaxText bytes, and one of one more.
func TestTooLongToWrite(t *testing.T) {
	const around = len(`<guarded><catch code="40"></catch></guarded>`)
	for _, main := range []int{5000, 10000, 14000} {
		rest := api.MaxText - around - main
		p := guard.Program{Main: long(1, main), Catch: catches(guard.Handler{Code: 40, Act: long(2, rest)})}
		s, err := guard.Write(p)
		if len(s) != api.MaxText || err != api.OK {
			t.Errorf("%d bytes, %v", len(s), err)
		}
		wantRead(t, s, p)
		p.Catch[0].Act = long(2, rest+1)
		wantNotWritten(t, "one byte too many", p, api.ErrFull)
		p.Catch = append(p.Catch, guard.Handler{Act: levels(23)})
		wantNotWritten(t, "one byte too many, and too deep", p, api.ErrLong)
	}
	wantNotWritten(t, "terms of 30000 bytes", guard.Program{Main: long(1, 15000), Catch: catches(guard.Handler{Act: long(2, 15000)})}, api.ErrFull)
}
