package infix_test

import (
	"math"
	"reflect"
	"slices"
	"strings"
	"testing"

	"treenail/api"
	"treenail/infix"
	"treenail/term"
)

func num(n int) api.Term { return api.Term{Op: api.OpNum, N: n} }

func variable(n int) api.Term { return api.Term{Op: api.OpVar, N: n} }

func with(op int, kids ...api.Term) api.Term { return api.Term{Op: op, Kids: kids} }

// read is the term of a text of layer 3.
func read(t *testing.T, s string) api.Term {
	t.Helper()
	x, err := term.Parse(s)
	if err != api.OK {
		t.Fatalf("term.Parse(%.80q): %v", s, err)
	}
	return x
}

// wantTerm is that a text is that of a term, which is written as layer 3 does.
func wantTerm(t *testing.T, s, want string) {
	t.Helper()
	x, at, err := infix.Parse(s)
	if !reflect.DeepEqual(x, read(t, want)) || at != 0 || err != api.OK {
		text, _ := term.Text(x)
		t.Errorf("Parse(%.80q): %.80s, %d, %v; want %.80s", s, text, at, err, want)
	}
}

// wantNone is that a text is no term's.
func wantNone(t *testing.T, s string, place int, want api.Errno) {
	t.Helper()
	if x, at, err := infix.Parse(s); !reflect.DeepEqual(x, api.Term{}) || at != place || err != want {
		t.Errorf("Parse(%.80q): %v, %d, %v; want %d, %v", s, x.Op, at, err, place, want)
	}
}

// wantText is that a term, which is written as layer 3 does, has a text; and that this is the term's.
func wantText(t *testing.T, x, want string) {
	t.Helper()
	if s, err := infix.Text(read(t, x)); s != want || err != api.OK {
		t.Errorf("Text(%.80s): %.80q, %v; want %.80q", x, s, err, want)
	}
	wantTerm(t, want, x)
}

func wantNoText(t *testing.T, x api.Term, want api.Errno) {
	t.Helper()
	if s, err := infix.Text(x); s != "" || err != want {
		t.Errorf("Text: %.80q, %v; want %v", s, err, want)
	}
}

// wantTokens is that a text has tokens, each written as its kind's letter, and its text.
func wantTokens(t *testing.T, s string, want ...string) {
	t.Helper()
	l, at, err := infix.Tokens(s)
	var got []string
	end := 0
	for _, x := range l {
		if x.Kind < infix.Num || x.Kind > infix.Sign || x.At < end || strings.Trim(s[end:x.At], " ") != "" || !strings.HasPrefix(s[x.At:], x.Text) {
			t.Errorf("Tokens(%q): %v", s, l)
			return
		}
		end = x.At + len(x.Text)
		got = append(got, "nvws"[x.Kind-1:x.Kind]+x.Text)
	}
	if !slices.Equal(got, want) || at != 0 || err != api.OK || strings.Trim(s[end:], " ") != "" {
		t.Errorf("Tokens(%q): %q, %d, %v; want %q", s, got, at, err, want)
	}
}

func wantNoTokens(t *testing.T, s string, place int, want api.Errno) {
	t.Helper()
	if l, at, err := infix.Tokens(s); len(l) > 0 || at != place || err != want {
		t.Errorf("Tokens(%.80q): %d, %d, %v; want %d, %v", s, len(l), at, err, place, want)
	}
}

// 29: the kinds' numbers.
func TestKinds(t *testing.T) {
	l, _, err := infix.Tokens(" 7 $1 or <=")
	want := []infix.Token{{Kind: 1, At: 1, Text: "7"}, {Kind: 2, At: 3, Text: "$1"}, {Kind: 3, At: 6, Text: "or"}, {Kind: 4, At: 9, Text: "<="}}
	if !slices.Equal(l, want) || err != api.OK {
		t.Errorf("%v, %v; want %v", l, err, want)
	}
}

// 29.1: tokens of all kinds, with and without spaces between them; of signs the longest that can be.
func TestTokens(t *testing.T) {
	wantTokens(t, "")
	wantTokens(t, "   ")
	wantTokens(t, "0", "n0")
	wantTokens(t, "1099511627776", "n1099511627776")
	wantTokens(t, "  12   $3 ", "n12", "v$3")
	wantTokens(t, "$0 $1 $2 $3", "v$0", "v$1", "v$2", "v$3")
	wantTokens(t, "and or not", "wand", "wor", "wnot")
	wantTokens(t, "+-*/%=!=<<=>>=()", "s+", "s-", "s*", "s/", "s%", "s=", "s!=", "s<", "s<=", "s>", "s>=", "s(", "s)")
	wantTokens(t, "<==", "s<=", "s=")
	wantTokens(t, "!===", "s!=", "s=", "s=")
	wantTokens(t, "=<", "s=", "s<")
	wantTokens(t, "<>=", "s<", "s>=")
	wantTokens(t, "< =", "s<", "s=")
	wantTokens(t, ">==", "s>=", "s=")
	wantTokens(t, "--", "s-", "s-")
	wantTokens(t, "1+$2)or(3", "n1", "s+", "v$2", "s)", "wor", "s(", "n3")
	wantTokens(t, "not(not", "wnot", "s(", "wnot")
	wantTokens(t, "$1=not", "v$1", "s=", "wnot")
}

// 29.1: ErrForm and the place of the first token that is none.
func TestNoToken(t *testing.T) {
	for s, place := range map[string]int{
		"00": 0, "01": 0, "1099511627777": 0, "9999999999999": 0, "18446744073709551617": 0, "99999999999999999999999999": 0, "1_000": 1, "1.5": 1,
		"$": 0, "$4": 0, "$9": 0, "$00": 0, "$10": 0, "$$1": 0, "$1$2": 0, "$ 1": 0, "$-1": 0, "$a": 0, "1$1": 0,
		"a": 0, "And": 0, "AND": 0, "oR": 0, "andy": 0, "an": 0, "nota": 0, "not1": 0, "or$1": 0, "1or": 0, "1and2": 0, "1a": 0, "1A": 0, "1Z": 0, "1z": 0, "0x1": 0, "xor": 0, "neg": 0, "true": 0,
		"!": 0, "1 ! = 2": 2, "!<": 0, "&": 0, "1 && 2": 2, "1 | 2": 2, "[1]": 0, "{": 0, "#": 0, "@": 0, "1,2": 1, "1;": 1, "^": 0, "~": 0, "?": 0, ":": 0, "'": 0, "\"": 0, "\\": 0, "`": 0, "_": 0, ".": 0,
		"\t": 0, "1\n": 1, " \r": 1, "1\x00": 1, "\xff": 0, "1\xc3\xa9": 1, "\u0661": 0, "\u00a0": 0, "1 \u2264 2": 2, "\x7f": 0,
		"1 + 2 = b": 8, "  01": 2, "1 01 a !": 2, "((00": 2, "a 01": 0, "<=!": 2, "1 - and4": 4,
	} {
		wantNoTokens(t, s, place, api.ErrForm)
		wantNone(t, s, place, api.ErrForm)
	}
	// A byte that stands in no token is none, whatever stands beside it.
	for b := range 256 {
		if strings.IndexByte(" +-*/%=<>()$0123456789", byte(b)) >= 0 || b >= 'a' && b <= 'z' || b >= 'A' && b <= 'Z' {
			continue
		}
		wantNoTokens(t, "1 "+string([]byte{byte(b)})+" a", 2, api.ErrForm)
	}
}

// 29.1: MaxText bytes, and one more, whatever they are.
func TestLong(t *testing.T) {
	for _, s := range []string{" ", "(", "a", "9", "1 ", "\x00"} {
		s = strings.Repeat(s, api.MaxText)[:api.MaxText]
		wantNoTokens(t, s+" ", 0, api.ErrLong)
		wantNone(t, s+" ", 0, api.ErrLong)
	}
	wantTokens(t, strings.Repeat(" ", api.MaxText))
	l, at, err := infix.Tokens(strings.Repeat("(", api.MaxText))
	if len(l) != api.MaxText || l[api.MaxText-1] != (infix.Token{Kind: infix.Sign, At: api.MaxText - 1, Text: "("}) || at != 0 || err != api.OK {
		t.Errorf("Tokens of %d brackets: %d, %d, %v", api.MaxText, len(l), at, err)
	}
	wantNoTokens(t, strings.Repeat("9", api.MaxText), 0, api.ErrForm)
	wantNoTokens(t, strings.Repeat(" ", api.MaxText-1)+"a", api.MaxText-1, api.ErrForm)
	wantNone(t, strings.Repeat(" ", api.MaxText), api.MaxText, api.ErrForm)
	wantTerm(t, strings.Repeat(" ", api.MaxText-1)+"1", "1")
}

// 29.2, 29.3: the chapter's example.
func TestExample(t *testing.T) {
	wantTerm(t, "not $0 + 1 = 2 or $1 < 3", "(or (not (eq (add $0 1) 2)) (lt $1 3))")
	wantText(t, "(or (not (eq (add $0 1) 2)) (lt $1 3))", "$0 + 1 != 2 or $1 < 3")
	wantTerm(t, "- 5", "(neg 5)")
}

// 29.2: what each operator is.
func TestOperators(t *testing.T) {
	for s, want := range map[string]string{
		"1 or 2": "(or 1 2)", "1 and 2": "(and 1 2)", "not 1": "(not 1)", "1 = 2": "(eq 1 2)", "1 != 2": "(not (eq 1 2))", "1 < 2": "(lt 1 2)", "1 <= 2": "(le 1 2)",
		"1 > 2": "(lt 2 1)", "1 >= 2": "(le 2 1)", "1 + 2": "(add 1 2)", "1 - 2": "(sub 1 2)", "1 * 2": "(mul 1 2)", "1 / 2": "(div 1 2)", "1 % 2": "(mod 1 2)",
		"-1": "(neg 1)", "0": "0", "1099511627776": "1099511627776", "$3": "$3", "(1)": "1", "((($2)))": "$2", " ( 1+ 2 )": "(add 1 2)",
	} {
		wantTerm(t, s, want)
		wantTerm(t, "("+s+")", want)
		wantTerm(t, "not not("+s+")", "(not (not "+want+"))")
	}
}

// 29.2: of each two rows the closer one is taken first; in one row, from the left to the right.
func TestRows(t *testing.T) {
	for s, want := range map[string]string{
		"1 or 2 or 3":                         "(or (or 1 2) 3)",
		"1 or (2 or 3)":                       "(or 1 (or 2 3))",
		"1 or 2 and 3":                        "(or 1 (and 2 3))",
		"1 and 2 or 3":                        "(or (and 1 2) 3)",
		"1 and 2 and 3":                       "(and (and 1 2) 3)",
		"(1 or 2) and 3":                      "(and (or 1 2) 3)",
		"not 1 and not 2 or not 3":            "(or (and (not 1) (not 2)) (not 3))",
		"not (1 and 2)":                       "(not (and 1 2))",
		"not not 1 = 2":                       "(not (not (eq 1 2)))",
		"not 1 != 2":                          "(not (not (eq 1 2)))",
		"1 = 2 and 3 > 4":                     "(and (eq 1 2) (lt 4 3))",
		"1 + 2 >= 3 - 4":                      "(le (sub 3 4) (add 1 2))",
		"1 - 2 + 3 - 4":                       "(sub (add (sub 1 2) 3) 4)",
		"1 - 2 * 3 - 4":                       "(sub (sub 1 (mul 2 3)) 4)",
		"1 * 2 + 3 / 4":                       "(add (mul 1 2) (div 3 4))",
		"1 * 2 / 3 % 4 * 5":                   "(mul (mod (div (mul 1 2) 3) 4) 5)",
		"1 * (2 + 3)":                         "(mul 1 (add 2 3))",
		"-1 * -2":                             "(mul (neg 1) (neg 2))",
		"-(1 * 2)":                            "(neg (mul 1 2))",
		"---1":                                "(neg (neg (neg 1)))",
		"1---2":                               "(sub 1 (neg (neg 2)))",
		"1 - - 2":                             "(sub 1 (neg 2))",
		"not -1 < -$0":                        "(not (lt (neg 1) (neg $0)))",
		"1 = (2 = 3)":                         "(eq 1 (eq 2 3))",
		"(1 != 2) != 3":                       "(not (eq (not (eq 1 2)) 3))",
		"1 + (not 2)":                         "(add 1 (not 2))",
		"-(not 1)":                            "(neg (not 1))",
		"$0*$1+$2%$3<=1or$0=0and not$1!=2and": "",
	} {
		if want == "" {
			wantNone(t, s, strings.Index(s, "1or"), api.ErrForm)
			continue
		}
		wantTerm(t, s, want)
		wantTerm(t, "  "+strings.ReplaceAll(s, " ", "   ")+" ", want)
	}
}

// 29.2: ErrForm, and the place of the first token at which it is clear.
func TestNoTerm(t *testing.T) {
	for s, place := range map[string]int{
		"": 0, " ": 1, "   ": 3, "1 2": 2, "1 $2": 2, "1 not": 2, "1 (": 2, "(1) 2": 4, "(1)(2)": 3, "1)": 1, ")": 0, "()": 1, "( )": 2, "(1": 2, "(1 ": 3, "((1)": 4, "(1))": 3,
		"1 +": 3, "1 + ": 4, "1 + )": 4, "(1 +) 2": 4, "+ 1": 0, "+": 0, "1 + + 2": 4, "1 * / 2": 4, "-": 1, "- -": 3, "-)": 1, "1 -": 3, "* 1": 0,
		"1 = 2 = 3": 6, "1 < 2 < 3": 6, "1 != 2 > 3": 7, "(1 = 2 >= 3)": 7, "1 + 2 = 3 * 4 != 5": 14, "1 = = 2": 4, "= 1": 0, "1 =": 3, "1 = ": 4, "1 < = 2": 4, "1 => 2": 3, "1 == 2": 3,
		"not": 3, "not ": 4, "not )": 4, "not and": 4, "1 and": 5, "1 and or 2": 6, "or": 0, "and 1": 0, "1 or": 4, "1 or )": 5, "1 or or": 5,
		"1 + not 2": 4, "- not 1": 2, "1 = not 2": 4, "1 * not 2": 4, "-not": 1, "1 not 2": 2, "1 and not": 9, "1 and not not or": 14,
		"1 = 2 and 3 = 4 = 5": 16, "(1 = 2) = 3 = 4": 12, "1 or (2 and 3": 13, "1 or (2 and 3) )": 15,
	} {
		wantNone(t, s, place, api.ErrForm)
	}
}

// deny is a term so many times denied.
func deny(times int, last string) string {
	return strings.Repeat("not ", times) + last
}

// 29.2: 2000 tokens, and one more, ahead of what they are.
func TestMostTokens(t *testing.T) {
	wantTerm(t, strings.Repeat("(", 999)+" - 1"+strings.Repeat(")", 999), "(neg 1)")
	wantNone(t, strings.Repeat("(", 999)+" --1"+strings.Repeat(")", 999), 0, api.ErrFull)
	wantNone(t, strings.Repeat("(", 1000)+"1"+strings.Repeat(")", 1000), 0, api.ErrFull)
	wantNone(t, strings.Repeat("1 ", 2000), 2, api.ErrForm)
	wantNone(t, strings.Repeat("1 ", 2001), 0, api.ErrFull)
	wantNone(t, strings.Repeat(")", 2001), 0, api.ErrFull)
	wantNone(t, strings.Repeat("(", 2000), 2000, api.ErrForm)
	wantNone(t, strings.Repeat("(", 2001), 0, api.ErrFull)
	wantNone(t, strings.Repeat("(", api.MaxText), 0, api.ErrFull)
	wantNone(t, strings.Repeat("1 ", 2001)+"a", 4002, api.ErrForm)
	wantNone(t, deny(2000, ""), 8000, api.ErrForm)
	wantNone(t, deny(2000, "1"), 0, api.ErrFull)
}

// 29.2: terms that lie MaxDepth deep, and one more; what is no text of a term counts ahead, brackets do not count.
func TestDeep(t *testing.T) {
	wantTerm(t, deny(23, "1"), strings.Repeat("(not ", 23)+"1"+strings.Repeat(")", 23))
	wantTerm(t, "("+deny(23, "(((1)))")+")", strings.Repeat("(not ", 23)+"1"+strings.Repeat(")", 23))
	wantNone(t, deny(24, "1"), 0, api.ErrLong)
	wantNone(t, deny(22, "1 != 2"), 0, api.ErrLong)
	wantTerm(t, deny(21, "1 != 2"), strings.Repeat("(not ", 22)+"(eq 1 2)"+strings.Repeat(")", 22))
	wantNone(t, deny(1999, "1"), 0, api.ErrLong)
	wantNone(t, strings.Repeat("-", 1999)+"1", 0, api.ErrLong)
	wantNone(t, deny(1998, "1 2"), 7994, api.ErrForm)
	wantNone(t, deny(24, ""), 96, api.ErrForm)
	wantNone(t, "1"+strings.Repeat(" + 1", 24), 0, api.ErrLong)
	wantTerm(t, "1"+strings.Repeat(" + 1", 23), strings.Repeat("(add ", 23)+"1"+strings.Repeat(" 1)", 23))
	wantNone(t, "1"+strings.Repeat(" or 1", 999), 0, api.ErrLong)
}

// group is so many of a text, with an operator between them.
func group(s, operator string, count int) string {
	return strings.Join(slices.Repeat([]string{s}, count), operator)
}

// 29.2: term.Text's error of a term whose text there is too long, though this one is not.
func TestFull(t *testing.T) {
	const most = "1099511627776"
	texts := func(inner int) string {
		return group("("+group(group(most+"!="+most, " and ", 6), " or ", inner)+")", " and ", 11)
	}
	s := texts(7)
	if l, _, err := infix.Tokens(s); len(l) > 2000 || err != api.OK {
		t.Fatalf("%d tokens, %v", len(l), err)
	}
	wantNone(t, s, 0, api.ErrFull)
	wantNone(t, s+" 1", len(s)+1, api.ErrForm)
	x, at, err := infix.Parse(texts(6))
	if text, other := term.Text(x); at != 0 || err != api.OK || other != api.OK || len(text) < 16000 {
		t.Errorf("Parse: %d, %v; %d bytes, %v", at, err, len(text), other)
	}
}

// 29.3, 29.4: texts, and in them brackets and spaces.
func TestText(t *testing.T) {
	for x, want := range map[string]string{
		"7": "7", "$0": "$0", "1099511627776": "1099511627776",
		"(neg 5)": "-5", "(neg (neg 5))": "--5", "(neg (neg (neg $1)))": "---$1", "(neg (add 1 2))": "-(1 + 2)", "(neg (mul 1 2))": "-(1 * 2)", "(neg (not 1))": "-(not 1)", "(neg (lt 1 2))": "-(1 < 2)",
		"(not 1)": "not 1", "(not (not 1))": "not not 1", "(not (neg 1))": "not -1", "(not (and 1 2))": "not (1 and 2)", "(not (or 1 2))": "not (1 or 2)", "(not (add 1 2))": "not 1 + 2",
		"(not (eq 1 2))": "1 != 2", "(not (not (eq 1 2)))": "not 1 != 2", "(not (not (not (eq 1 2))))": "not not 1 != 2", "(not (lt 1 2))": "not 1 < 2", "(not (le 1 2))": "not 1 <= 2",
		"(eq 1 2)": "1 = 2", "(lt 1 2)": "1 < 2", "(le 1 2)": "1 <= 2", "(add 1 2)": "1 + 2", "(sub 1 2)": "1 - 2", "(mul 1 2)": "1 * 2", "(div 1 2)": "1 / 2", "(mod 1 2)": "1 % 2", "(and 1 2)": "1 and 2", "(or 1 2)": "1 or 2",
		"(add (add 1 2) 3)": "1 + 2 + 3", "(add 1 (add 2 3))": "1 + (2 + 3)", "(sub (add 1 2) 3)": "1 + 2 - 3", "(add 1 (sub 2 3))": "1 + (2 - 3)", "(sub 1 (neg 2))": "1 - -2", "(neg (sub 1 2))": "-(1 - 2)",
		"(mul (mul 1 2) 3)": "1 * 2 * 3", "(mul 1 (mul 2 3))": "1 * (2 * 3)", "(mod (div 1 2) (div 3 4))": "1 / 2 % (3 / 4)", "(mul (add 1 2) (sub 3 4))": "(1 + 2) * (3 - 4)", "(add (mul 1 2) (mul 3 4))": "1 * 2 + 3 * 4",
		"(mul (neg 1) (neg 2))": "-1 * -2", "(mul (not 1) (not 2))": "(not 1) * (not 2)", "(add (not 1) 2)": "(not 1) + 2",
		"(eq (eq 1 2) (eq 3 4))": "(1 = 2) = (3 = 4)", "(lt (not (eq 1 2)) 3)": "(1 != 2) < 3", "(not (eq (not (eq 1 2)) (not 3)))": "(1 != 2) != (not 3)", "(le (not 1) 2)": "(not 1) <= 2", "(eq (and 1 2) (or 1 2))": "(1 and 2) = (1 or 2)",
		"(eq (add 1 2) (mul 3 4))": "1 + 2 = 3 * 4", "(and (not 1) (not 2))": "not 1 and not 2", "(and (eq 1 2) (not (eq 3 4)))": "1 = 2 and 3 != 4",
		"(and (and 1 2) 3)": "1 and 2 and 3", "(and 1 (and 2 3))": "1 and (2 and 3)", "(and (or 1 2) (or 3 4))": "(1 or 2) and (3 or 4)", "(or (and 1 2) (and 3 4))": "1 and 2 or 3 and 4", "(or (or 1 2) 3)": "1 or 2 or 3", "(or 1 (or 2 3))": "1 or (2 or 3)",
		"(or (not (and 1 2)) 3)": "not (1 and 2) or 3", "(add (or 1 2) (and 3 4))": "(1 or 2) + (3 and 4)", "(not (eq (add 1 (add 2 3)) 4))": "1 + (2 + 3) != 4",
	} {
		wantText(t, x, want)
	}
}

// 29.3: term.Text's errors, in its order.
func TestNoText(t *testing.T) {
	deep := read(t, strings.Repeat("(not ", 23)+"1"+strings.Repeat(")", 23))
	great := num(api.MaxInt)
	for range 11 {
		great = with(api.OpAdd, great, great)
	}
	for _, x := range []api.Term{
		{}, num(-1), num(api.MaxInt + 1), variable(api.Vars), variable(-1), with(api.OpNot), with(api.OpNot, num(1), num(2)), with(api.OpAdd, num(1)), with(15, num(1)), with(-1), with(math.MaxInt, num(1), num(2)), with(math.MinInt, num(1)),
		{Op: api.OpNot, N: 1, Kids: []api.Term{num(1)}}, with(api.OpNum, num(1)), with(api.OpNot, with(api.OpEq)), with(api.OpNot, with(api.OpEq, num(1))), with(api.OpAdd, great, num(-1)),
	} {
		wantNoText(t, x, api.ErrForm)
	}
	wantNoText(t, with(api.OpNot, deep), api.ErrLong)
	wantNoText(t, with(api.OpAdd, num(-1), deep), api.ErrLong)
	wantNoText(t, with(api.OpAdd, great, deep), api.ErrLong)
	wantNoText(t, great, api.ErrFull)
	if s, err := infix.Text(deep); s != deny(23, "1") || err != api.OK {
		t.Errorf("Text: %s, %v", s, err)
	}
}

// 29.3: a term has its text even where that has more tokens than are parsed.
func TestTextOfMany(t *testing.T) {
	x := num(1)
	for range 11 {
		x = with(api.OpAdd, x, x)
	}
	s, err := infix.Text(x)
	if err != api.OK || strings.Count(s, "1") != 1<<11 || strings.Count(s, "+") != 1<<11-1 || strings.Count(s, "(") != 1<<10-1 {
		t.Errorf("Text: %.80q, %v", s, err)
	}
	wantNone(t, s, 0, api.ErrFull)
}

// room is a term whose lists have spare room, in which something stands.
func room(x api.Term) api.Term {
	kids := make([]api.Term, 0, len(x.Kids)+1)
	for _, k := range x.Kids {
		kids = append(kids, room(k))
	}
	x.Kids = append(kids, num(99))[:len(kids)]
	return x
}

// held tells whether a term's lists still have what stood in their spare room.
func held(x api.Term) bool {
	return x.Kids[:len(x.Kids)+1][len(x.Kids)].N == 99 && !slices.ContainsFunc(x.Kids, func(k api.Term) bool { return !held(k) })
}

// spoil changes a term, and all in it, spare room too.
func spoil(x *api.Term) {
	for i := range x.Kids {
		spoil(&x.Kids[i])
	}
	for i := range x.Kids[:cap(x.Kids)] {
		x.Kids[:cap(x.Kids)][i] = num(55)
	}
}

// R3, R6: what is handed in stays, answers share nothing, and the same call tells the same.
func TestMemory(t *testing.T) {
	const s = "not $0 + 1 != 2 and (3 >= $1 or 4 > 5 * -6) and 1 < 2"
	const want = "(and (and (not (not (eq (add $0 1) 2))) (or (le $1 3) (lt (mul 5 (neg 6)) 4))) (lt 1 2))"
	x, _, _ := infix.Parse(s)
	spoil(&x.Kids[1])
	spoil(&x.Kids[0].Kids[1].Kids[1])
	if !term.Same(x.Kids[0].Kids[0], read(t, "(not (not (eq (add $0 1) 2)))")) || !term.Same(x.Kids[0].Kids[1].Kids[0], read(t, "(le $1 3)")) {
		t.Error("lists of an answer share memory")
	}
	spoil(&x)
	wantTerm(t, s, want)
	first, _, _ := infix.Tokens(s)
	was := slices.Clone(first)
	clear(first[:cap(first)])
	if second, _, _ := infix.Tokens(s); !slices.Equal(second, was) {
		t.Error("tokens have changed")
	}
	y := room(read(t, want))
	for range 2 {
		if text, err := infix.Text(y); text != "not $0 + 1 != 2 and ($1 <= 3 or 5 * -6 < 4) and 1 < 2" || err != api.OK {
			t.Errorf("%s, %v", text, err)
		}
	}
	if !term.Same(y, read(t, want)) || !held(y) {
		t.Error("a term was changed")
	}
}

// P3: calls end at anything.
func TestEnds(t *testing.T) {
	for _, op := range []int{api.OpNum, api.OpNeg, api.OpNot, api.OpEq, api.OpAdd, 0, 99} {
		for n := 1; n < 4; n++ {
			kids := make([]api.Term, n)
			for i := range kids {
				kids[i] = api.Term{Op: op, Kids: kids}
			}
			wantNoText(t, kids[0], api.ErrLong)
		}
	}
	great := num(1)
	for range 23 {
		great = with(api.OpNot, with(api.OpEq, great, great))
		great = great.Kids[0]
	}
	wantNoText(t, great, api.ErrFull)
	wantNoText(t, with(api.OpNot, great), api.ErrLong)
	for _, s := range []string{"(", "-", "not ", "1 or ", "1 = ", "(-", "(not", "1 - (", "\xff", "\x00", "!", "$", "1099511627776"} {
		for _, n := range []int{1, 100, 1999, 2000, api.MaxText / len(s), api.MaxText} {
			if x, _, err := infix.Parse(strings.Repeat(s, n)); err == api.OK && n > 1 || err != api.OK && !reflect.DeepEqual(x, api.Term{}) {
				t.Errorf("Parse of %d %q: %v", n, s, err)
			}
		}
	}
}
