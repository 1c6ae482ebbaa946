package life

import (
	"treenail/api"
	"treenail/bpel"
	"treenail/dead"
	"treenail/eval"
	"treenail/span"
	"treenail/token"
)

// isState tells whether it is a state of a right program.
func isState(a bpel.Act, s State) bool {
	return span.Filled(s.Status[:], bpel.Size(a), Asks) && isWebState(a, s.Web) && span.Filled(s.Tokens[:], flows(a), api.MaxHold) &&
		eval.Fits(s.Vars) && span.Upto(api.MaxHold, s.Queue[:]...) && span.Upto(token.Broken, s.Mode)
}

// isWebState tells whether it is a state of a web; of any other program it is that nothing is told.
func isWebState(a bpel.Act, s dead.State) bool {
	if a.Kind == bpel.Web {
		return dead.Check(a, s) == api.OK
	}
	return s == dead.State{}
}

// flows is how many of a program's flows may hold tokens.
func flows(a bpel.Act) int {
	if a.Kind == bpel.Rules {
		return len(a.Net.Flows)
	}
	return 0
}
