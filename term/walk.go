package term

import (
	"treenail/api"
	"treenail/nest"
)

// way is a way through terms, down to so many levels.
func way(levels int) nest.Way[api.Term] {
	kids := func(t api.Term) []api.Term { return t.Kids }
	return nest.Way[api.Term]{Kids: kids, Levels: levels, Things: nest.MostThings}
}

// show shows a term and all in it.
func show(t api.Term, to func(api.Term)) {
	nest.Through(way(nest.MostLevels), t, func(x api.Term) bool {
		to(x)
		return true
	})
}

// checkForm goes through all terms even if one has no right form: one that lies too deep counts for more.
func checkForm(t api.Term) api.Errno {
	right := true
	all := nest.Through(way(api.MaxDepth), t, func(x api.Term) bool {
		right = right && formed(x)
		return true
	})
	if !all {
		return api.ErrLong
	}
	if !right {
		return api.ErrForm
	}
	return api.OK
}
