package scope

import "slices"

// fault does what a fault in a scope that is In does, and tells it behind what was done already.
func (r *Run) fault(told []Action, i int) []Action {
	for _, k := range r.parts(In, r.isOf(i), greater) {
		told = r.end(told, k)
	}
	for _, k := range r.parts(Done, r.isOf(i), r.later) {
		told = r.undo(told, k)
	}
	if r.plan[i].Catch {
		r.states[i] = Caught
		return append(told, Action{What: Catch, Scope: i})
	}
	r.states[i] = Failed
	told = append(told, Action{What: Fail, Scope: i})
	if parent := r.plan[i].Parent; parent != none {
		return r.fault(told, parent)
	}
	return told
}

// end ends a scope that is In, and its parts: each has a greater number than what it is in, so that the order alone has the inner ones end ahead of the outer ones, and the scope itself last.
func (r *Run) end(told []Action, i int) []Action {
	for _, k := range r.parts(In, r.isWithin(i), greater) {
		r.states[k] = Ended
		told = append(told, Action{What: End, Scope: k})
	}
	return told
}

// undo undoes a scope that is Done, or, if it can't, the parts that have it as Parent: what lies deeper is theirs to undo.
func (r *Run) undo(told []Action, i int) []Action {
	if r.plan[i].Undo {
		told = append(told, Action{What: Undo, Scope: i})
	} else {
		for _, k := range r.parts(Done, r.isOf(i), r.later) {
			told = r.undo(told, k)
		}
	}
	r.states[i] = Undone
	r.done = slices.DeleteFunc(r.done, func(k int) bool { return k == i })
	return told
}

// parts are the scopes in this state that belong, in the order that is told of two of them.
func (r *Run) parts(state int, belongs func(k int) bool, order func(a, b int) int) []int {
	var l []int
	for k, s := range r.states {
		if s == state && belongs(k) {
			l = append(l, k)
		}
	}
	slices.SortFunc(l, order)
	return l
}

// isOf tells of a scope whether its Parent is i.
func (r *Run) isOf(i int) func(k int) bool {
	return func(k int) bool { return r.plan[k].Parent == i }
}

// isWithin tells of a scope whether it is i or a part of it, however deep.
func (r *Run) isWithin(i int) func(k int) bool {
	return func(k int) bool {
		for k > i {
			k = r.plan[k].Parent
		}
		return k == i
	}
}

// greater has the greater number come first.
func greater(a, b int) int { return b - a }

// later has the one come first that was done last.
func (r *Run) later(a, b int) int {
	return slices.Index(r.done, b) - slices.Index(r.done, a)
}
