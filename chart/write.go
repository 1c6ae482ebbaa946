package chart

import (
	"strconv"

	"treenail/api"
	"treenail/mark"
	"treenail/tree"
)

// nodeElem is the element of a node that is right.
func nodeElem(x api.Node) tree.Elem {
	e := tree.Elem{Name: kinds[x.Kind]}
	switch x.Kind {
	case api.Task:
		e.Attrs = []mark.Attr{number("var", x.A)}
	case api.Assign:
		e.Attrs = []mark.Attr{number("var", x.A), {Name: "value", Value: termText(x.Term)}}
	case api.Catch:
		if x.A != api.Msgs {
			e.Attrs = []mark.Attr{number("message", x.A)}
		}
	}
	return e
}

// flowElem is the element of a flow that is right.
func flowElem(f api.Flow) tree.Elem {
	e := tree.Elem{Name: flow, Attrs: []mark.Attr{number("from", f.From), number("to", f.To)}}
	switch {
	case f.Else:
		e.Attrs = append(e.Attrs, mark.Attr{Name: "else", Value: "yes"})
	case f.Cond.Op != 0:
		e.Attrs = append(e.Attrs, mark.Attr{Name: "if", Value: termText(f.Cond)})
	}
	return e
}

func number(name string, n int) mark.Attr { return mark.Attr{Name: name, Value: strconv.Itoa(n)} }
