package infix

import (
	"treenail/api"
	"treenail/term"
)

// first is the token with which a text begins, that is not empty; its Kind is 0, if it is none.
func first(s string) Token {
	if n := run(s); n > 0 {
		return Token{Kind: kindOf(s[:n]), Text: s[:n]}
	}
	for n := min(2, len(s)); n > 0; n-- {
		if isSign(s[:n]) {
			return Token{Kind: Sign, Text: s[:n]}
		}
	}
	return Token{}
}

// run is how many digits, letters and $ a text begins with.
func run(s string) int {
	for i := range len(s) {
		if !runs(s[i]) {
			return i
		}
	}
	return len(s)
}

func runs(b byte) bool {
	return b >= '0' && b <= '9' || b >= 'a' && b <= 'z' || b >= 'A' && b <= 'Z' || b == '$'
}

// kindOf is the kind of the token that digits, letters and $ are; 0, if they are none.
func kindOf(text string) int {
	if isOperator(text) {
		return Word
	}
	t, err := term.Parse(text)
	switch {
	case err != api.OK:
		return 0
	case t.Op == api.OpVar:
		return Var
	}
	return Num
}

func isSign(text string) bool { return text == "(" || text == ")" || isOperator(text) }
