package term

import "treenail/api"

// operator is what is asked of a term: how many kids, of which type, and up to which N; and what is known of it then.
type operator struct {
	text        string
	kids, asked int
	most        int
	is          int
}

// The place of each row is the operator's number; the first row is no operator's.
var operators = [15]operator{
	api.OpNum: {text: "", most: api.MaxInt, is: Number},
	api.OpVar: {text: "$", most: api.Vars - 1, is: Number},
	api.OpNeg: {text: "neg", kids: 1, asked: Number, is: Number},
	api.OpNot: {text: "not", kids: 1, asked: Truth, is: Truth},
	api.OpAdd: {text: "add", kids: 2, asked: Number, is: Number},
	api.OpSub: {text: "sub", kids: 2, asked: Number, is: Number},
	api.OpMul: {text: "mul", kids: 2, asked: Number, is: Number},
	api.OpDiv: {text: "div", kids: 2, asked: Number, is: Number},
	api.OpMod: {text: "mod", kids: 2, asked: Number, is: Number},
	api.OpEq:  {text: "eq", kids: 2, asked: Number, is: Truth},
	api.OpLt:  {text: "lt", kids: 2, asked: Number, is: Truth},
	api.OpLe:  {text: "le", kids: 2, asked: Number, is: Truth},
	api.OpAnd: {text: "and", kids: 2, asked: Truth, is: Truth},
	api.OpOr:  {text: "or", kids: 2, asked: Truth, is: Truth},
}

// named is the operator with kids that has this text; 0, if none has.
func named(text string) int {
	for op, o := range operators {
		if o.kids > 0 && o.text == text {
			return op
		}
	}
	return 0
}

// formed tells whether a term's operator, its N and how many kids it has are right; its kids are not looked at.
func formed(t api.Term) bool {
	if t.Op < api.OpNum || t.Op > api.OpOr {
		return false
	}
	o := operators[t.Op]
	return len(t.Kids) == o.kids && t.N >= 0 && t.N <= o.most
}

// typed tells of a term of a right form whether all kids in it are of the type that is asked.
func typed(t api.Term) bool {
	for _, k := range t.Kids {
		if operators[k.Op].is != operators[t.Op].asked || !typed(k) {
			return false
		}
	}
	return true
}
