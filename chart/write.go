package chart

import (
	"treenail/api"
	"treenail/attr"
	"treenail/tree"
)

// nodeElem is the element of a node that is right.
func nodeElem(x api.Node) tree.Elem {
	var w attr.Writer
	switch x.Kind {
	case api.Task:
		w.Number("var", x.A)
	case api.Assign:
		w.Number("var", x.A)
		w.Term("value", x.Term)
	case api.Catch:
		w.Message(x.A)
	}
	return tree.Elem{Name: kinds[x.Kind], Attrs: w.List()}
}

// flowElem is the element of a flow that is right.
func flowElem(f api.Flow) tree.Elem {
	var w attr.Writer
	w.Number("from", f.From)
	w.Number("to", f.To)
	switch {
	case f.Else:
		w.Text("else", "yes")
	case f.Cond.Op != 0:
		w.Term("if", f.Cond)
	}
	return tree.Elem{Name: flow, Attrs: w.List()}
}
