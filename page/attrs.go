package page

import (
	"treenail/api"
	"treenail/bpel"
)

// splitsOne is the A of a gate that has conds.
const splitsOne = 3

// hand is what is done to an activity's attributes: they are put, or taken off.
type hand struct {
	number  func(name string, n *int)
	term    func(name string, t *api.Term)
	message func(m *int)
	conds   func(conds *[]api.Term, other int)
}

// each hands on all attributes that an activity of its kind has, in their order.
func each(a *bpel.Act, h hand) {
	switch a.Kind {
	case bpel.Empty, bpel.Sequence, bpel.Flow, bpel.Web, bpel.Rules:
		return
	}
	h.number("node", &a.Node)
	switch a.Kind {
	case bpel.Invoke:
		h.number("var", &a.A)
	case bpel.Assign:
		h.number("var", &a.A)
		h.term("value", &a.Term)
	case bpel.Receive:
		h.number("message", &a.A)
	case bpel.On:
		h.message(&a.A)
	case bpel.If:
		h.number("else", &a.A)
		h.conds(&a.Conds, a.A)
	case bpel.Loop:
		h.number("else", &a.A)
		h.number("leaves", &a.B)
		h.conds(&a.Conds, a.A)
	case bpel.Gate:
		h.number("kind", &a.A)
		if a.A == splitsOne {
			h.number("else", &a.B)
			h.conds(&a.Conds, a.B)
		}
	}
}

// outside is the end of a link that has no attribute.
const outside = -1

// eachEnd hands on a link's ends.
func eachEnd(l *bpel.Link, end func(name string, n *int)) {
	end("from", &l.From)
	end("to", &l.To)
}
