package infix

import (
	"slices"

	"treenail/api"
)

// The rows of operators: the looser ahead of the closer. In the closest one are numbers, variables, and what is in brackets.
const (
	loosest = 1
	closest = 8
)

// How the operators of a row stand: between two, any number of them one behind the other, or just one; or ahead of one.
const (
	between = 1
	once    = 2
	ahead   = 3
)

// The place of each is the row.
var stands = [closest]int{1: between, 2: between, 3: ahead, 4: once, 5: between, 6: between, 7: ahead}

// operator is how an operator of terms is written in a row: as it is, with its kids swapped, or so that it is denied.
type operator struct {
	row           int
	text          string
	op            int
	swaps, denies bool
}

// Closer ones stand first: != counts ahead of not, which it could be written with, too.
var operators = [15]operator{
	{row: 7, text: "-", op: api.OpNeg},
	{row: 6, text: "*", op: api.OpMul},
	{row: 6, text: "/", op: api.OpDiv},
	{row: 6, text: "%", op: api.OpMod},
	{row: 5, text: "+", op: api.OpAdd},
	{row: 5, text: "-", op: api.OpSub},
	{row: 4, text: "=", op: api.OpEq},
	{row: 4, text: "!=", op: api.OpEq, denies: true},
	{row: 4, text: "<", op: api.OpLt},
	{row: 4, text: "<=", op: api.OpLe},
	{row: 4, text: ">", op: api.OpLt, swaps: true},
	{row: 4, text: ">=", op: api.OpLe, swaps: true},
	{row: 3, text: not, op: api.OpNot},
	{row: 2, text: "and", op: api.OpAnd},
	{row: 1, text: "or", op: api.OpOr},
}

const not = "not"

// isOperator tells whether an operator is written so.
func isOperator(text string) bool {
	for _, o := range operators {
		if o.text == text {
			return true
		}
	}
	return false
}

// of is the term that an operator makes of what it takes.
func (o operator) of(kids ...api.Term) api.Term {
	if o.swaps {
		slices.Reverse(kids)
	}
	t := api.Term{Op: o.op, Kids: kids}
	if o.denies {
		return api.Term{Op: api.OpNot, Kids: []api.Term{t}}
	}
	return t
}

// taken is what an operator takes, if a term is to be written with it.
func (o operator) taken(t api.Term) ([]api.Term, bool) {
	if o.denies {
		if t.Op != api.OpNot {
			return nil, false
		}
		t = t.Kids[0]
	}
	return t.Kids, t.Op == o.op && !o.swaps
}

// least is the loosest row of what may stand at a place beside an operator of a row without brackets.
func least(row, place int) int {
	if stands[row] == ahead || stands[row] == between && place == 0 {
		return row
	}
	return row + 1
}
