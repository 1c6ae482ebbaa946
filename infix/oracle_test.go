package infix_test

import (
	"math/rand"
	"reflect"
	"regexp"
	"slices"
	"strconv"
	"strings"
	"testing"

	"treenail/api"
	"treenail/infix"
	"treenail/sample"
	"treenail/term"
)

// What may be a token, and what is one, by the chapter's words.
var (
	pieces = regexp.MustCompile(`^(?:[0-9A-Za-z$]+|!=|<=|>=|[-+*/%=<>()])`)
	kinds  = [5]*regexp.Regexp{
		infix.Num:  regexp.MustCompile(`^(?:0|[1-9][0-9]{0,12})$`),
		infix.Var:  regexp.MustCompile(`^\$[0-3]$`),
		infix.Word: regexp.MustCompile(`^(?:and|or|not)$`),
		infix.Sign: regexp.MustCompile(`^[^0-9A-Za-z$]+$`),
	}
)

// tokens is another reading of the words: the tokens, or the place of the first that is none; -1, if all are.
func tokens(s string) ([]infix.Token, int) {
	var l []infix.Token
	for at := 0; ; {
		at += len(s[at:]) - len(strings.TrimLeft(s[at:], " "))
		if at == len(s) {
			return l, -1
		}
		x := infix.Token{At: at, Text: pieces.FindString(s[at:])}
		for kind := infix.Num; kind <= infix.Sign; kind++ {
			if kinds[kind].MatchString(x.Text) {
				x.Kind = kind
			}
		}
		if n, err := strconv.Atoi(x.Text); x.Kind == 0 || x.Kind == infix.Num && (err != nil || n > 1<<40) {
			return nil, at
		}
		l = append(l, x)
		at += len(x.Text)
	}
}

// texts are the tokens' texts.
func texts(l []infix.Token) []string {
	var s []string
	for _, x := range l {
		s = append(s, x.Text)
	}
	return s
}

// isOperand tells whether a token ends what is taken.
func isOperand(s string) bool { return s == ")" || s[0] == '$' || s[0] >= '0' && s[0] <= '9' }

// splits are the places, outside of brackets, of what stands between two and is one of some texts; false, if brackets don't fit.
func splits(l []string, wanted string) ([]int, bool) {
	var at []int
	open := 0
	for i, s := range l {
		switch {
		case s == "(":
			open++
		case s == ")":
			open--
			if open < 0 {
				return nil, false
			}
		case open == 0 && i > 0 && isOperand(l[i-1]) && slices.Contains(strings.Fields(wanted), s):
			at = append(at, i)
		}
	}
	return at, open == 0
}

// whole is another reading of the rows: a term is split at the last of its loosest signs; its text, as layer 3 writes it, or nothing.
func whole(l []string) string {
	if len(l) == 0 {
		return ""
	}
	for _, row := range []string{"or", "and"} {
		if at, ok := splits(l, row); !ok {
			return ""
		} else if len(at) > 0 {
			return two(row, whole(l[:at[len(at)-1]]), closer(l[at[len(at)-1]+1:], row))
		}
	}
	if l[0] == "not" {
		return one("not", closer(l[1:], "and"))
	}
	return sides(l)
}

// closer is whole of what has no sign as loose as one outside of brackets.
func closer(l []string, loose string) string {
	if at, ok := splits(l, map[string]string{"or": "or", "and": "or and"}[loose]); !ok || len(at) > 0 {
		return ""
	}
	return whole(l)
}

// sides is what may have a comparison.
func sides(l []string) string {
	at, _ := splits(l, "= != < <= > >=")
	if len(at) == 0 {
		return chain(l)
	}
	a, b := chain(l[:at[0]]), chain(l[at[0]+1:])
	switch l[at[0]] {
	case "=":
		return two("eq", a, b)
	case "!=":
		return one("not", two("eq", a, b))
	case "<":
		return two("lt", a, b)
	case "<=":
		return two("le", a, b)
	case ">":
		return two("lt", b, a)
	}
	return two("le", b, a)
}

// chain is what has numbers' signs alone outside of brackets.
func chain(l []string) string {
	if at, ok := splits(l, "and or = != < <= > >="); !ok || len(at) > 0 || len(l) == 0 {
		return ""
	}
	names := map[string]string{"+": "add", "-": "sub", "*": "mul", "/": "div", "%": "mod"}
	for _, row := range []string{"+ -", "* / %"} {
		if at, _ := splits(l, row); len(at) > 0 {
			last := at[len(at)-1]
			return two(names[l[last]], chain(l[:last]), chain(l[last+1:]))
		}
	}
	switch {
	case l[0] == "-":
		return one("neg", chain(l[1:]))
	case l[0] == "(" && l[len(l)-1] == ")":
		return whole(l[1 : len(l)-1])
	case len(l) == 1 && isOperand(l[0]) && l[0] != ")":
		return l[0]
	}
	return ""
}

func one(name, a string) string {
	if a == "" {
		return ""
	}
	return "(" + name + " " + a + ")"
}

func two(name, a, b string) string {
	if a == "" || b == "" {
		return ""
	}
	return "(" + name + " " + a + " " + b + ")"
}

// begins tells whether a term's text may begin so: it is one, or has one, once brackets are closed, and a number is there.
func begins(l []string) bool {
	open := 0
	for _, s := range l {
		open += strings.Count(s, "(") - strings.Count(s, ")")
	}
	if open < 0 {
		return false
	}
	if len(l) == 0 || !isOperand(l[len(l)-1]) {
		l = append(slices.Clone(l), "1")
	}
	return whole(append(slices.Clone(l), slices.Repeat([]string{")"}, open)...)) != ""
}

// holdParse holds Tokens and Parse of a short text against the other reading. It tells whether it is a term's, and whether it has tokens.
func holdParse(t *testing.T, s string) (isTerm, hasTokens bool) {
	t.Helper()
	l, wrong := tokens(s)
	if wrong >= 0 {
		wantNoTokens(t, s, wrong, api.ErrForm)
		wantNone(t, s, wrong, api.ErrForm)
		return false, false
	}
	if got, at, err := infix.Tokens(s); !slices.Equal(got, l) || at != 0 || err != api.OK {
		t.Errorf("Tokens(%q): %v, %d, %v; want %v", s, got, at, err, l)
	}
	words := texts(l)
	if want := whole(words); want != "" {
		wantTerm(t, s, want)
		return true, true
	}
	for i, x := range l {
		if !begins(words[:i+1]) {
			wantNone(t, s, x.At, api.ErrForm)
			return false, true
		}
	}
	wantNone(t, s, len(s), api.ErrForm)
	return false, true
}

// 29.2: all texts of few tokens.
func TestFewTokens(t *testing.T) {
	words := strings.Fields("1 not and or = > + - * ( )")
	var l [][]string
	found := 0
	for l = [][]string{nil}; len(l) > 0; l = l[1:] {
		if is, _ := holdParse(t, strings.Join(l[0], " ")); is {
			found++
		}
		// What no text begins with is gone on from no more, but for one token.
		if len(l[0]) < 6 && (len(l[0]) < 1 || begins(l[0][:len(l[0])-1])) {
			for _, w := range words {
				l = append(l, append(slices.Clone(l[0]), w))
			}
		}
	}
	if found < 600 {
		t.Errorf("%d texts were terms'", found)
	}
}

// 29.1, 29.2: any tokens, and bytes, with or without spaces.
func TestAnyTexts(t *testing.T) {
	r := rand.New(rand.NewSource(1))
	words := strings.Fields("1 20 $0 $3 not and or + - * / % = != < <= > >= ( ) ( ) 1099511627776 1099511627777 $4 a ! é 00")
	var terms, others, wrong int
	for range 60000 {
		s := ""
		for range r.Intn(10) {
			s += words[r.Intn(len(words)-[3]int{0, 6, 6}[r.Intn(3)])] + strings.Repeat(" ", min(r.Intn(6), 2))
		}
		switch is, has := holdParse(t, s); {
		case is:
			terms++
		case has:
			others++
		default:
			wrong++
		}
	}
	if min(terms, others, wrong) < 1000 {
		t.Errorf("%d terms, %d others, %d without tokens", terms, others, wrong)
	}
}

// anyTerm is a term of at most so many levels, whatever its types.
func anyTerm(r *rand.Rand, levels int) api.Term {
	if levels == 1 || r.Intn(5) == 0 {
		if r.Intn(2) == 0 {
			return variable(r.Intn(api.Vars))
		}
		return num([]int{0, 1, 10, api.MaxInt}[r.Intn(4)])
	}
	op := api.OpNeg + r.Intn(api.OpOr-api.OpNeg+1)
	switch {
	case op > api.OpNot:
		return with(op, anyTerm(r, levels-1), anyTerm(r, levels-1))
	case r.Intn(3) == 0:
		return with(api.OpNot, with(api.OpEq, anyTerm(r, levels-1), anyTerm(r, levels-1)))
	}
	return with(op, anyTerm(r, levels-1))
}

// spaced is how a text's spaces are to stand: its tokens, one space where the words say so.
func spaced(l []infix.Token) string {
	s := ""
	for i, x := range l {
		between := i > 0 && x.Text != "(" && x.Text != ")" && x.Text != "not" && isOperand(l[i-1].Text) && !isOperand(x.Text)
		switch {
		case between:
			s += " " + x.Text + " "
		case x.Text == "not":
			s += "not "
		default:
			s += x.Text
		}
	}
	return s
}

// bracketed are the places of pairs of brackets.
func bracketed(s string) [][2]int {
	var open []int
	var pairs [][2]int
	for i := range len(s) {
		switch s[i] {
		case '(':
			open = append(open, i)
		case ')':
			pairs = append(pairs, [2]int{open[len(open)-1], i})
			open = open[:len(open)-1]
		}
	}
	return pairs
}

// 29.3, 29.4: a text is what it was made of; without any of its brackets it would be another term; > and >= are not written, != is.
func TestAnyTerms(t *testing.T) {
	r := rand.New(rand.NewSource(2))
	brackets, others, none := 0, 0, 0
	for i := range 20000 {
		x := anyTerm(r, 1+r.Intn(6))
		switch i % 3 {
		case 0:
			x = sample.Number(r.Intn, 5)
		case 1:
			x = sample.Truth(r.Intn, 5)
		}
		s, err := infix.Text(x)
		if err != api.OK {
			t.Fatalf("Text(%v): %v", x, err)
		}
		if y, at, err := infix.Parse(s); !reflect.DeepEqual(normal(x), y) || at != 0 || err != api.OK {
			t.Fatalf("Parse(%q): %v, %d, %v; want %v", s, y, at, err, x)
		}
		l, _ := tokens(s)
		if spaced(l) != s || strings.Contains(s, ">") {
			t.Fatalf("Text(%v): %q; want %q", x, s, spaced(l))
		}
		for _, p := range bracketed(s) {
			brackets++
			bare, _, err := infix.Parse(s[:p[0]] + s[p[0]+1:p[1]] + s[p[1]+1:])
			if err != api.OK {
				none++
			} else if others++; term.Same(bare, x) {
				t.Fatalf("Text(%v): %q: brackets at %d and %d could be left out", x, s, p[0], p[1])
			}
		}
	}
	if brackets < 10000 || others < 5000 || none < 1000 {
		t.Errorf("%d brackets; without them %d other terms, %d none", brackets, others, none)
	}
}

// normal is a term with nil for lists without a term.
func normal(x api.Term) api.Term {
	var kids []api.Term
	for _, k := range x.Kids {
		kids = append(kids, normal(k))
	}
	x.Kids = kids
	return x
}

// 29.3: a term denies an equality by != wherever it stands, and by not otherwise.
func TestDenied(t *testing.T) {
	r := rand.New(rand.NewSource(3))
	denied := 0
	for range 5000 {
		x := anyTerm(r, 5)
		s, _ := infix.Text(x)
		pairs, nots := 0, 0
		var count func(x api.Term)
		count = func(x api.Term) {
			if x.Op == api.OpNot && x.Kids[0].Op == api.OpEq {
				pairs++
			} else if x.Op == api.OpNot {
				nots++
			}
			for _, k := range x.Kids {
				count(k)
			}
		}
		count(x)
		denied += pairs
		if strings.Count(s, "!=") != pairs || strings.Count(s, "not") != nots {
			t.Fatalf("Text(%v): %q", x, s)
		}
	}
	if denied < 1000 {
		t.Errorf("%d were denied", denied)
	}
}
