package term

import "treenail/api"

// How far a walk goes. Lists of kids may lie in themselves, and the calls must end all the same.
const (
	mostLevels = 1000
	mostTerms  = 1<<31 - 1
)

// walk is a way through terms that comes to no more than so many.
type walk struct{ left int }

// enter tells whether the walk may go on to a term that has so many levels left.
func (w *walk) enter(levels int) bool {
	if levels == 0 || w.left == 0 {
		return false
	}
	w.left--
	return true
}

// show shows a term and all in it; false, if it had to give up.
func (w *walk) show(t api.Term, levels int, to func(api.Term)) bool {
	if !w.enter(levels) {
		return false
	}
	to(t)
	for _, k := range t.Kids {
		if !w.show(k, levels-1, to) {
			return false
		}
	}
	return true
}

// same tells whether two terms are the same; false too, if it had to give up.
func (w *walk) same(a, b api.Term, levels int) bool {
	if !w.enter(levels) || a.Op != b.Op || a.N != b.N || len(a.Kids) != len(b.Kids) {
		return false
	}
	for i, k := range a.Kids {
		if !w.same(k, b.Kids[i], levels-1) {
			return false
		}
	}
	return true
}

// through shows a term and all in it, and tells whether they lie at most so many levels deep.
func through(t api.Term, levels int, to func(api.Term)) bool {
	w := walk{left: mostTerms}
	return w.show(t, levels, to)
}

// checkForm goes through all terms even if one has no right form: one that lies too deep counts for more.
func checkForm(t api.Term) api.Errno {
	right := true
	if !through(t, api.MaxDepth, func(x api.Term) { right = right && formed(x) }) {
		return api.ErrLong
	}
	if !right {
		return api.ErrForm
	}
	return api.OK
}
