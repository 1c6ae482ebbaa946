package page

import (
	"slices"

	"treenail/api"
	"treenail/attr"
	"treenail/bpel"
	"treenail/chart"
	"treenail/nest"
	"treenail/tree"
)

// How great a number may be, and how many places conds may have. What else is asked of them, layer 16 asks.
const (
	mostNumber = 99
	mostConds  = 64
)

// part is an activity without its kids, and how many these are.
type part struct {
	act  bpel.Act
	kids int
}

// act is the activity of an element, which need not be a program; or ErrForm, if it is none's, or one in it is; else ErrLong, if there are too many in it.
// Elements may lie in themselves, so that no more of them are made activities than there may be: of all others it is only asked whether they are some's.
func act(e tree.Elem) (bpel.Act, api.Errno) {
	var parts []part
	right := true
	way := nest.Way[tree.Elem]{Kids: actElems, Levels: bpel.Most, Things: bpel.Most}
	all := nest.Through(way, e, func(x tree.Elem) bool {
		var a bpel.Act
		a, right = single(x)
		parts = append(parts, part{a, len(actElems(x))})
		return right
	})
	if all {
		a, _ := assemble(parts)
		return a, api.OK
	}
	if right && nest.Once(e, actElems, isAct) {
		return bpel.Act{}, api.ErrLong
	}
	return bpel.Act{}, api.ErrForm
}

// isAct tells whether an element is an activity's, its kids aside.
func isAct(e tree.Elem) bool {
	_, ok := single(e)
	return ok
}

// assemble is the activity with which parts begin, each ahead of its kids, and the parts behind it.
func assemble(parts []part) (bpel.Act, []part) {
	first, rest := parts[0], parts[1:]
	for range first.kids {
		var kid bpel.Act
		kid, rest = assemble(rest)
		first.act.Kids = append(first.act.Kids, kid)
	}
	return first.act, rest
}

// actElems are the kids of an element that are to be activities' elements.
func actElems(e tree.Elem) []tree.Elem {
	switch kindOf(e.Name) {
	case bpel.Rules:
		return nil
	case bpel.Web:
		first := slices.IndexFunc(e.Kids, func(k tree.Elem) bool { return k.Name == link })
		if first >= 0 {
			return e.Kids[:first]
		}
	}
	return e.Kids
}

// single is the activity of an element, without its kids; false, if it is none's.
func single(e tree.Elem) (bpel.Act, bool) {
	a := bpel.Act{Kind: kindOf(e.Name)}
	if a.Kind == 0 || e.Text != "" {
		return bpel.Act{}, false
	}
	r := newReader(e)
	each(&a, hand{r.number, r.term, r.message, r.conds})
	if !r.Over() || !inside(&a, e.Kids[len(actElems(e)):]) {
		return bpel.Act{}, false
	}
	return a, true
}

// inside gives an activity what the kids are of its element that are no activities' elements: links, or a process.
func inside(a *bpel.Act, kids []tree.Elem) bool {
	if a.Kind != bpel.Rules {
		return links(a, kids)
	}
	if len(kids) != 1 {
		return false
	}
	n, why := chart.Net(kids[0])
	a.Net = n
	return why == 0
}

func links(a *bpel.Act, kids []tree.Elem) bool {
	for _, k := range kids {
		l, ok := linkOf(k)
		if !ok {
			return false
		}
		a.Links = append(a.Links, l)
	}
	return true
}

// linkOf is the link of an element; false, if it is none's.
func linkOf(e tree.Elem) (bpel.Link, bool) {
	var l bpel.Link
	r := newReader(e)
	eachEnd(&l, r.end)
	return l, e.Name == link && r.Over() && len(e.Kids) == 0 && e.Text == ""
}

// reader takes off what it is handed.
type reader struct{ *attr.Reader }

func newReader(e tree.Elem) reader { return reader{attr.NewReader(e.Attrs)} }

func (r reader) number(name string, n *int) {
	*n = r.Number(name)
	if *n > mostNumber {
		r.Refuse()
	}
}

func (r reader) term(name string, t *api.Term) { *t = r.Term(name) }

func (r reader) message(m *int) {
	*m = r.Message()
	if *m > mostNumber {
		r.Refuse()
	}
}

// conds takes off as many conds as there are. The else one has no attribute: it stands where it is said to, among them or behind them.
func (r reader) conds(conds *[]api.Term, other int) {
	for i := 0; i == other || i < mostConds && r.Next() == condName(i); i++ {
		var c api.Term
		if i != other {
			c = r.Term(condName(i))
		}
		*conds = append(*conds, c)
	}
	// One place further on than behind them is a matter of layer 16, which refuses it.
	if other > len(*conds)+1 {
		r.Refuse()
	}
}

func (r reader) end(name string, n *int) {
	*n = outside
	if r.Next() == name {
		r.number(name, n)
	}
}
