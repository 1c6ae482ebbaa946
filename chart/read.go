package chart

import (
	"strconv"

	"treenail/api"
	"treenail/mark"
	"treenail/tree"
)

// nodeOf is the node of an element; false, if it is no node's.
func nodeOf(e tree.Elem) (api.Node, bool) {
	x := api.Node{Kind: kindOf(e.Name)}
	r := reader{left: e.Attrs}
	switch x.Kind {
	case 0:
		return api.Node{}, false
	case api.Task:
		x.A = r.number("var")
	case api.Assign:
		x.A, x.Term = r.number("var"), r.term("value")
	case api.Catch:
		x.A = r.message()
	}
	return x, r.over() && isLeaf(e)
}

// flowOf is the flow of an element; false, if it is no flow's.
func flowOf(e tree.Elem) (api.Flow, bool) {
	if e.Name != flow {
		return api.Flow{}, false
	}
	r := reader{left: e.Attrs}
	f := api.Flow{From: r.number("from"), To: r.number("to")}
	switch r.next() {
	case "else":
		f.Else = r.take("else") == "yes"
		r.wrong = r.wrong || !f.Else
	case "if":
		f.Cond = r.term("if")
	}
	return f, r.over() && isLeaf(e)
}

func isLeaf(e tree.Elem) bool { return len(e.Kids) == 0 && e.Text == "" }

// reader takes attributes one by one, and keeps in mind whether one was wrong.
type reader struct {
	left  []mark.Attr
	wrong bool
}

// over tells whether all attributes were taken, and none was wrong.
func (r *reader) over() bool { return len(r.left) == 0 && !r.wrong }

// next is the name of the next attribute, or no name.
func (r *reader) next() string {
	if len(r.left) == 0 {
		return ""
	}
	return r.left[0].Name
}

// take takes the next attribute, which must have this name, and answers its value.
func (r *reader) take(name string) string {
	if r.next() != name {
		r.wrong = true
		return ""
	}
	value := r.left[0].Value
	r.left = r.left[1:]
	return value
}

func (r *reader) number(name string) int {
	value := r.take(name)
	n, err := strconv.Atoi(value)
	// Signs and noughts ahead are seen by writing the number anew.
	if err != nil || n < 0 || strconv.Itoa(n) != value {
		r.wrong = true
		return 0
	}
	return n
}

func (r *reader) term(name string) api.Term {
	t, ok := termOf(r.take(name))
	r.wrong = r.wrong || !ok
	return t
}

// message is that of a Catch: a timer has no attribute, so that no attribute may tell it.
func (r *reader) message() int {
	if r.next() == "" {
		return api.Msgs
	}
	m := r.number("message")
	r.wrong = r.wrong || m == api.Msgs
	return m
}
