package life

import (
	"treenail/api"
	"treenail/bpel"
	"treenail/dead"
	"treenail/token"
)

// item is an activity at its place among all of a program: its parent's place, at which place it is among that one's kids, and the place behind all that is in it.
type item struct {
	parent, at, end int
	act             *bpel.Act
}

// run is a right program and a state of it, which goes on.
type run struct {
	items []item
	state State
}

// newRun is a run of a program that is in a state. Its items are those that layer 16 lists; but that one copies whatever is in them, and moves are asked for often.
func newRun(a bpel.Act, s State) *run {
	r := &run{items: make([]item, 0, bpel.Size(a)), state: s}
	r.list(&a, -1, 0)
	return r
}

// list lists an activity and all in it.
func (r *run) list(a *bpel.Act, parent, at int) {
	place := len(r.items)
	r.items = append(r.items, item{parent: parent, at: at, act: a})
	for i := range a.Kids {
		r.list(&a.Kids[i], place, i)
	}
	r.items[place].end = len(r.items)
}

// kid is the place of an item's kid.
func (r *run) kid(i, at int) int {
	place := i + 1
	for range at {
		place = r.items[place].end
	}
	return place
}

// begin begins an item; what became of it, and of all in it, when it ran before is forgotten.
func (r *run) begin(i int) {
	a := r.items[i].act
	clear(r.state.Status[i:r.items[i].end])
	r.state.Status[i] = Active
	switch a.Kind {
	case bpel.Empty:
		r.over(i)
	case bpel.Sequence, bpel.Loop, bpel.On:
		r.begin(r.kid(i, 0))
	case bpel.Flow:
		for at := range a.Kids {
			r.begin(r.kid(i, at))
		}
	case bpel.Web:
		r.state.Web, _ = dead.Start(*a)
		r.goOn(i, dead.State{})
	case bpel.Rules:
		s, _ := token.Start(a.Net)
		r.state.Tokens = s.Tokens
	}
}

// over has an item be over, and what is around it go on.
func (r *run) over(i int) {
	r.state.Status[i] = Over
	x := r.items[i]
	if x.parent < 0 {
		return
	}
	around := r.items[x.parent].act
	switch around.Kind {
	case bpel.Sequence:
		if x.at+1 < len(around.Kids) {
			r.begin(x.end)
		} else {
			r.over(x.parent)
		}
	case bpel.Flow:
		if r.allOver(x.parent) {
			r.over(x.parent)
		}
	case bpel.Loop:
		if x.at == 0 {
			r.state.Status[x.parent] = Asks
		} else {
			r.begin(r.kid(x.parent, 0))
		}
	case bpel.Web:
		was := r.state.Web
		if web, err := dead.Finish(*around, was, x.at); err == api.OK {
			r.state.Web = web
		}
		r.goOn(x.parent, was)
	default:
		r.over(x.parent)
	}
}

// allOver tells whether all kids of an item are over.
func (r *run) allOver(i int) bool {
	for at := range r.items[i].act.Kids {
		if r.state.Status[r.kid(i, at)] != Over {
			return false
		}
	}
	return true
}

// goOn begins the kids of a web that run now and did not in a state that was. What they do at once may have others run, which begin then: so the state is not asked again.
func (r *run) goOn(i int, was dead.State) {
	web, now := *r.items[i].act, r.state.Web
	for _, at := range dead.Running(web, now) {
		if was.Kids[at] != dead.Runs {
			r.begin(r.kid(i, at))
		}
	}
	if dead.Over(web, r.state.Web) && r.state.Status[i] != Over {
		r.over(i)
	}
}
