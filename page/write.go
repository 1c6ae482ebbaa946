package page

import (
	"treenail/api"
	"treenail/attr"
	"treenail/bpel"
	"treenail/chart"
	"treenail/tree"
)

// elem is the element of an activity that is right.
func elem(a bpel.Act) tree.Elem {
	var w writer
	each(&a, hand{w.number, w.term, w.message, w.conds})
	e := tree.Elem{Name: kinds[a.Kind], Attrs: w.List()}
	for _, k := range a.Kids {
		e.Kids = append(e.Kids, elem(k))
	}
	for _, l := range a.Links {
		e.Kids = append(e.Kids, linkElem(l))
	}
	if a.Kind == bpel.Rules {
		process, _ := chart.Elem(a.Net)
		e.Kids = append(e.Kids, process)
	}
	return e
}

func linkElem(l bpel.Link) tree.Elem {
	var w writer
	eachEnd(&l, w.end)
	return tree.Elem{Name: link, Attrs: w.List()}
}

// writer puts what is handed to it.
type writer struct{ attr.Writer }

func (w *writer) number(name string, n *int) { w.Number(name, *n) }

func (w *writer) term(name string, t *api.Term) { w.Term(name, *t) }

func (w *writer) message(m *int) { w.Message(*m) }

func (w *writer) conds(conds *[]api.Term, other int) {
	for i, c := range *conds {
		if i != other {
			w.Term(condName(i), c)
		}
	}
}

func (w *writer) end(name string, n *int) {
	if *n != outside {
		w.Number(name, *n)
	}
}
