package infix

import (
	"treenail/api"
	"treenail/term"
)

// reader takes tokens off, one by one; the first one left is that at which it fails, if it does.
type reader struct{ rest []Token }

// place is where the first token is that is left; the end, if none is.
func (r *reader) place(end int) int {
	if len(r.rest) > 0 {
		return r.rest[0].At
	}
	return end
}

// row is the term of a row, or a closer one, with which the rest begins.
func (r *reader) row(row int) (api.Term, bool) {
	switch {
	case row == closest:
		return r.single()
	case stands[row] == ahead:
		return r.ahead(row)
	}
	return r.between(row)
}

func (r *reader) ahead(row int) (api.Term, bool) {
	o, ok := r.operator(row)
	if !ok {
		return r.row(row + 1)
	}
	kid, ok := r.row(least(row, 0))
	return o.of(kid), ok
}

func (r *reader) between(row int) (api.Term, bool) {
	t, ok := r.row(row + 1)
	for ok {
		o, more := r.operator(row)
		if !more {
			break
		}
		var right api.Term
		right, ok = r.row(least(row, 1))
		t = o.of(t, right)
		if stands[row] == once {
			break
		}
	}
	return t, ok
}

// single is a number, a variable, or a term in brackets.
func (r *reader) single() (api.Term, bool) {
	if len(r.rest) > 0 && (r.rest[0].Kind == Num || r.rest[0].Kind == Var) {
		t, err := term.Parse(r.rest[0].Text)
		r.rest = r.rest[1:]
		return t, err == api.OK
	}
	if !r.skip("(") {
		return api.Term{}, false
	}
	t, ok := r.row(loosest)
	return t, ok && r.skip(")")
}

// operator takes off an operator of a row, if there is one.
func (r *reader) operator(row int) (operator, bool) {
	for _, o := range operators {
		if o.row == row && r.skip(o.text) {
			return o, true
		}
	}
	return operator{}, false
}

// skip takes off a token of this text, if there is one.
func (r *reader) skip(text string) bool {
	if len(r.rest) == 0 || r.rest[0].Text != text {
		return false
	}
	r.rest = r.rest[1:]
	return true
}
