package attr_test

import (
	"reflect"
	"strings"
	"testing"

	"treenail/api"
	"treenail/attr"
	"treenail/mark"
	"treenail/term"
)

// neg is a term of two levels, the outer one with the other sign.
func neg(n int) api.Term {
	return api.Term{Op: api.OpNeg, Kids: []api.Term{{Op: api.OpNum, N: n}}}
}

// What is put stands in that order, and is taken off in that order; a timer has no attribute.
func TestPutAndTaken(t *testing.T) {
	for m := range api.Msgs + 1 {
		var w attr.Writer
		w.Number("a", 70)
		w.Message(m)
		w.Term("b", neg(3))
		w.Text("c", "<")
		want := []mark.Attr{{Name: "a", Value: "70"}, {Name: "message", Value: string(rune('0' + m))}, {Name: "b", Value: "(neg 3)"}, {Name: "c", Value: "<"}}
		if m == api.Msgs {
			want = append(want[:1], want[2:]...)
		}
		if !reflect.DeepEqual(w.List(), want) {
			t.Errorf("List: %v; want %v", w.List(), want)
		}
		r := attr.NewReader(w.List())
		if r.Over() || r.Next() != "a" {
			t.Errorf("the next of %v: %q", want, r.Next())
		}
		if n, got, b, c := r.Number("a"), r.Message(), r.Term("b"), r.Text("c"); n != 70 || got != m || !term.Same(b, neg(3)) || c != "<" || !r.Over() || r.Next() != "" {
			t.Errorf("%v: %d, %d, %v, %q", want, n, got, b, c)
		}
	}
}

// What is wrong once is wrong to the end, and is told as nothing.
func TestWrong(t *testing.T) {
	number := func(r *attr.Reader) bool { return r.Number("a") == 0 }
	aTerm := func(r *attr.Reader) bool { return reflect.DeepEqual(r.Term("a"), api.Term{}) }
	text := func(r *attr.Reader) bool { return r.Text("a") == "" }
	for i, c := range []struct {
		list []mark.Attr
		take func(*attr.Reader) bool
	}{
		{nil, number}, {nil, aTerm}, {nil, text},
		{nil, func(r *attr.Reader) bool { return r.Text("") == "" }},
		{[]mark.Attr{{Name: "b", Value: "1"}}, number}, {[]mark.Attr{{Name: "b", Value: "1"}}, aTerm}, {[]mark.Attr{{Name: "b", Value: "1"}}, text},
		{[]mark.Attr{{Name: "a", Value: ""}}, number}, {[]mark.Attr{{Name: "a", Value: "01"}}, number}, {[]mark.Attr{{Name: "a", Value: "+1"}}, number},
		{[]mark.Attr{{Name: "a", Value: "-1"}}, number}, {[]mark.Attr{{Name: "a", Value: "-0"}}, number}, {[]mark.Attr{{Name: "a", Value: "1x"}}, number},
		{[]mark.Attr{{Name: "a", Value: strings.Repeat("9", 30)}}, number}, {[]mark.Attr{{Name: "a", Value: "0x1"}}, number}, {[]mark.Attr{{Name: "a", Value: "1_0"}}, number},
		{[]mark.Attr{{Name: "a", Value: ""}}, aTerm}, {[]mark.Attr{{Name: "a", Value: "(neg)"}}, aTerm}, {[]mark.Attr{{Name: "a", Value: "01"}}, aTerm},
		{[]mark.Attr{{Name: "message", Value: "4"}}, func(r *attr.Reader) bool { return r.Message() == api.Msgs }},
		{[]mark.Attr{{Name: "message", Value: "x"}}, func(r *attr.Reader) bool { return r.Message() == 0 }},
	} {
		r := attr.NewReader(c.list)
		if !c.take(r) || r.Over() {
			t.Errorf("%d: %v is right", i, c.list)
		}
		r = attr.NewReader(append(c.list, mark.Attr{Name: "z", Value: "1"}))
		c.take(r)
		for r.Next() != "" {
			r.Text(r.Next())
		}
		if r.Over() {
			t.Errorf("%d: %v is right at the end", i, c.list)
		}
	}
	r := attr.NewReader(nil)
	if !r.Over() {
		t.Error("no attributes are not right")
	}
	if r.Refuse(); r.Over() {
		t.Error("what is refused is right")
	}
	if r = attr.NewReader([]mark.Attr{{}}); r.Over() {
		t.Error("an attribute that is left is right")
	}
}

// Terms whose texts layer 3 does not tell: they are put together, and taken apart.
func TestLongTerm(t *testing.T) {
	x := neg(7)
	for range 12 {
		x = api.Term{Op: api.OpSub, Kids: []api.Term{x, x}}
	}
	if _, err := term.Text(x); err != api.ErrFull {
		t.Fatalf("the text of %d terms: %v", term.Size(x), err)
	}
	var w attr.Writer
	w.Term("a", x)
	text := w.List()[0].Value
	if strings.Count(text, "(sub ") != 1<<12-1 || strings.Count(text, "(neg 7)") != 1<<12 || len(text) != (1<<12-1)*7+(1<<12)*7 {
		t.Errorf("%d bytes", len(text))
	}
	r := attr.NewReader(w.List())
	if !term.Same(r.Term("a"), x) || !r.Over() {
		t.Error("another term")
	}
	for _, s := range []string{text + ")", text[1:], text + " ", "(neg " + text, "(neg " + text + " " + text + ")", strings.Repeat("(neg ", 24) + text + strings.Repeat(")", 24)} {
		r := attr.NewReader([]mark.Attr{{Name: "a", Value: s}})
		if got := r.Term("a"); r.Over() || !reflect.DeepEqual(got, api.Term{}) {
			t.Errorf("%.20q.., %d bytes: %d terms", s, len(s), term.Size(got))
		}
	}
}

// A text that is too long for layer 3 still as far down as it can be.
func TestLongAndDeep(t *testing.T) {
	x := api.Term{Op: api.OpNum, N: api.MaxInt}
	for range 10 {
		x = api.Term{Op: api.OpMul, Kids: []api.Term{x, x}}
	}
	if _, err := term.Text(x); err != api.ErrFull {
		t.Fatalf("the text of %d terms: %v", term.Size(x), err)
	}
	for deep := 11; deep <= api.MaxDepth; deep++ {
		var w attr.Writer
		w.Term("a", x)
		r := attr.NewReader(w.List())
		if !term.Same(r.Term("a"), x) || !r.Over() {
			t.Errorf("%d deep: another term", deep)
		}
		x = api.Term{Op: api.OpNeg, Kids: []api.Term{x}}
	}
}

// R3: attributes that are handed in are not changed.
func TestLeft(t *testing.T) {
	l := []mark.Attr{{Name: "a", Value: "1"}, {Name: "b", Value: "2"}}
	r := attr.NewReader(l)
	r.Number("a")
	r.Term("b")
	if !r.Over() || l[0] != (mark.Attr{Name: "a", Value: "1"}) || l[1] != (mark.Attr{Name: "b", Value: "2"}) {
		t.Error(l)
	}
}
