package chart

import (
	"treenail/api"
	"treenail/attr"
	"treenail/tree"
)

// nodeOf is the node of an element; false, if it is no node's.
func nodeOf(e tree.Elem) (api.Node, bool) {
	x := api.Node{Kind: kindOf(e.Name)}
	r := attr.NewReader(e.Attrs)
	switch x.Kind {
	case 0:
		return api.Node{}, false
	case api.Task:
		x.A = r.Number("var")
	case api.Assign:
		x.A, x.Term = r.Number("var"), r.Term("value")
	case api.Catch:
		x.A = r.Message()
	}
	return x, r.Over() && isLeaf(e)
}

// flowOf is the flow of an element; false, if it is no flow's.
func flowOf(e tree.Elem) (api.Flow, bool) {
	if e.Name != flow {
		return api.Flow{}, false
	}
	r := attr.NewReader(e.Attrs)
	f := api.Flow{From: r.Number("from"), To: r.Number("to")}
	switch r.Next() {
	case "else":
		f.Else = r.Text("else") == "yes"
		if !f.Else {
			r.Refuse()
		}
	case "if":
		f.Cond = r.Term("if")
	}
	return f, r.Over() && isLeaf(e)
}

func isLeaf(e tree.Elem) bool { return len(e.Kids) == 0 && e.Text == "" }
