package term

import (
	"strconv"
	"strings"

	"treenail/api"
)

// write puts a term's text behind other bytes. It stops soon behind MaxText bytes, for what is longer is told no more.
func write(out []byte, t api.Term) []byte {
	o := operators[t.Op]
	if o.kids == 0 {
		return strconv.AppendInt(append(out, o.text...), int64(t.N), 10)
	}
	out = append(append(out, '('), o.text...)
	for _, k := range t.Kids {
		if len(out) > api.MaxText {
			return out
		}
		out = write(append(out, ' '), k)
	}
	return append(out, ')')
}

// reader takes a text apart from its beginning on.
type reader struct{ rest string }

// term is the term with which the rest begins, of at most so many levels.
func (r *reader) term(levels int) (api.Term, bool) {
	if levels == 0 {
		return api.Term{}, false
	}
	if r.skip("(") {
		return r.branch(levels)
	}
	return leaf(r.word())
}

// branch is a term with kids, behind its first bracket.
func (r *reader) branch(levels int) (api.Term, bool) {
	op := named(r.word())
	if op == 0 {
		return api.Term{}, false
	}
	t := api.Term{Op: op, Kids: make([]api.Term, operators[op].kids)}
	for i := range t.Kids {
		if !r.skip(" ") {
			return api.Term{}, false
		}
		kid, ok := r.term(levels - 1)
		if !ok {
			return api.Term{}, false
		}
		t.Kids[i] = kid
	}
	return t, r.skip(")")
}

// skip leaves these bytes behind, if they are the next ones.
func (r *reader) skip(wanted string) bool {
	rest, ok := strings.CutPrefix(r.rest, wanted)
	r.rest = rest
	return ok
}

// word leaves all behind up to the next space or closing bracket, and answers it.
func (r *reader) word() string {
	end := len(r.rest)
	for i, c := range r.rest {
		if c == ' ' || c == ')' {
			end = i
			break
		}
	}
	w := r.rest[:end]
	r.rest = r.rest[end:]
	return w
}

// leaf is the term without kids that a word is.
func leaf(word string) (api.Term, bool) {
	op := api.OpNum
	number, isVar := strings.CutPrefix(word, operators[api.OpVar].text)
	if isVar {
		op = api.OpVar
	}
	n, ok := digits(number, operators[op].most)
	if !ok {
		return api.Term{}, false
	}
	return api.Term{Op: op, N: n}, true
}

// digits is the number from 0 up to the most that a word is, without a 0 ahead of others.
func digits(word string, most int) (int, bool) {
	n := 0
	for i, c := range word {
		if c < '0' || c > '9' || i > 0 && n == 0 {
			return 0, false
		}
		n = n*10 + int(c-'0')
		if n > most {
			return 0, false
		}
	}
	return n, word != ""
}
