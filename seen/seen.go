// Package seen has what can be seen of a thing that goes from state to state: lists of states, closed over what is not seen. The layers that look at processes and at programs have their clouds by it.
package seen

import (
	"cmp"
	"slices"

	"treenail/api"
)

// Game is how states move: Labels are those of a state's moves, in their order (Silent ones the zero label), and Do is what the move at a place leads to.
type Game[S comparable] struct {
	Labels func(S) []api.Label
	Do     func(S, int) S
}

// Once is each state of a list once, in their order.
func Once[S comparable](l []S) []S { return gather(l).states }

// Check is the first error that a list's states have.
func Check[S comparable](l []S, check func(S) api.Errno) api.Errno {
	for _, s := range Once(l) {
		if err := check(s); err != api.OK {
			return err
		}
	}
	return api.OK
}

// Close is the closed list; ErrFull, if it has more than so many states.
func Close[S comparable](g Game[S], l []S, most int) ([]S, api.Errno) {
	f := gather(l)
	for i := 0; i < len(f.states) && len(f.states) <= most; i++ {
		f.add(leads(g, f.states[i], api.Label{}))
	}
	if len(f.states) > most {
		return nil, api.ErrFull
	}
	return f.states, api.OK
}

// Labels are all that can be seen next, each once, rising.
func Labels[S comparable](g Game[S], l []S) []api.Label {
	var labels []api.Label
	for _, s := range Once(l) {
		for _, x := range g.Labels(s) {
			if x.Kind != api.Silent {
				labels = append(labels, x)
			}
		}
	}
	slices.SortFunc(labels, Compare)
	return slices.Compact(labels)
}

// After is what is behind a label, closed; ErrFull, if it has more than so many states.
func After[S comparable](g Game[S], l []S, x api.Label, most int) ([]S, api.Errno) {
	f := gather[S](nil)
	for _, s := range Once(l) {
		f.add(leads(g, s, x))
	}
	return Close(g, f.states, most)
}

// Accepts is how many labels, one behind the other from a state on, can be seen; ErrFull, if a cloud on the way has more than so many states.
func Accepts[S comparable](g Game[S], start S, l []api.Label, most int) (int, api.Errno) {
	now, err := Close(g, []S{start}, most)
	if err != api.OK {
		return 0, err
	}
	for i, x := range l {
		if x.Kind == api.Silent {
			return i, api.OK
		}
		if now, err = After(g, now, x, most); err != api.OK {
			return 0, err
		}
		if len(now) == 0 {
			return i, api.OK
		}
	}
	return len(l), api.OK
}

// Compare is below 0, if a label is ahead of another one; 0, if both are the same.
func Compare(a, b api.Label) int {
	return cmp.Or(cmp.Compare(a.Kind, b.Kind), cmp.Compare(a.Node, b.Node), cmp.Compare(a.Arg, b.Arg))
}

// leads is what the moves of a state with a label lead to, in their order.
func leads[S comparable](g Game[S], s S, x api.Label) []S {
	var l []S
	for i, y := range g.Labels(s) {
		if y == x {
			l = append(l, g.Do(s, i))
		}
	}
	return l
}

// finds is states in the order in which they were found, each once.
type finds[S comparable] struct {
	states []S
	known  map[S]struct{} // the same states: there may be many, and to look through them all would be slow
}

func gather[S comparable](l []S) *finds[S] {
	f := &finds[S]{known: make(map[S]struct{})}
	f.add(l)
	return f
}

func (f *finds[S]) add(l []S) {
	for _, s := range l {
		if _, ok := f.known[s]; !ok {
			f.known[s] = struct{}{}
			f.states = append(f.states, s)
		}
	}
}
