package term_test

import (
	"fmt"
	"math"
	"reflect"
	"slices"
	"strings"
	"testing"

	"treenail/api"
	"treenail/term"
)

func num(n int) api.Term { return api.Term{Op: api.OpNum, N: n} }

func variable(n int) api.Term { return api.Term{Op: api.OpVar, N: n} }

func with(op int, kids ...api.Term) api.Term { return api.Term{Op: op, Kids: kids} }

// deep is a number that lies so many levels deep in signs.
func deep(levels int, last api.Term) api.Term {
	for range levels - 1 {
		last = with(api.OpNeg, last)
	}
	return last
}

func mustParse(t *testing.T, s string) api.Term {
	t.Helper()
	x, e := term.Parse(s)
	if e != api.OK {
		t.Fatalf("Parse(%.80q): %v", s, e)
	}
	return x
}

// brief is a term as it is told beside a failure; great ones would fill the screen.
func brief(x api.Term) string {
	if n := term.Size(x); n > 50 {
		return fmt.Sprintf("a term of %d", n)
	}
	return fmt.Sprint(x)
}

func wantCheck(t *testing.T, x api.Term, is int, want api.Errno) {
	t.Helper()
	if n, e := term.Check(x); n != is || e != want {
		t.Errorf("Check(%s): %d, %v; want %d, %v", brief(x), n, e, is, want)
	}
}

func wantText(t *testing.T, x api.Term, s string, want api.Errno) {
	t.Helper()
	if g, e := term.Text(x); g != s || e != want {
		t.Errorf("Text(%s): %.80q, %v; want %.80q, %v", brief(x), g, e, s, want)
	}
}

func wantParse(t *testing.T, s string, x api.Term, want api.Errno) {
	t.Helper()
	if g, e := term.Parse(s); !reflect.DeepEqual(g, x) || e != want {
		t.Errorf("Parse(%.80q): %s, %v; want %s, %v", s, brief(g), e, brief(x), want)
	}
}

// The document's table of operators, in its own words.
var table = []struct {
	op        int
	text      string
	kids      int
	asked, is int
}{
	{3, "neg", 1, term.Number, term.Number},
	{4, "not", 1, term.Truth, term.Truth},
	{5, "add", 2, term.Number, term.Number},
	{6, "sub", 2, term.Number, term.Number},
	{7, "mul", 2, term.Number, term.Number},
	{8, "div", 2, term.Number, term.Number},
	{9, "mod", 2, term.Number, term.Number},
	{10, "eq", 2, term.Number, term.Truth},
	{11, "lt", 2, term.Number, term.Truth},
	{12, "le", 2, term.Number, term.Truth},
	{13, "and", 2, term.Truth, term.Truth},
	{14, "or", 2, term.Truth, term.Truth},
}

// 3.1: each operator with kids: its text, how many kids it has, N, and types.
func TestOperators(t *testing.T) {
	kid := map[int]api.Term{term.Number: variable(3), term.Truth: with(api.OpEq, num(0), num(10))}
	text := map[int]string{term.Number: " $3", term.Truth: " (eq 0 10)"}
	for _, o := range table {
		for n := range 4 {
			x := with(o.op, slices.Repeat([]api.Term{kid[o.asked]}, n)...)
			s := "(" + o.text + strings.Repeat(text[o.asked], n) + ")"
			if n != o.kids {
				wantCheck(t, x, 0, api.ErrForm)
				wantText(t, x, "", api.ErrForm)
				wantParse(t, s, api.Term{}, api.ErrForm)
				continue
			}
			wantCheck(t, x, o.is, api.OK)
			wantText(t, x, s, api.OK)
			wantParse(t, s, x, api.OK)
			for _, n := range []int{-1, 1, 3, math.MinInt, math.MaxInt} {
				x.N = n
				wantCheck(t, x, 0, api.ErrForm)
				wantText(t, x, "", api.ErrForm)
			}
		}
	}
}

// 3.1: a kid of the other type, in each place; texts do not ask for types.
func TestTypes(t *testing.T) {
	kid := map[int]api.Term{term.Number: num(7), term.Truth: with(api.OpLt, num(1), num(2))}
	text := map[int]string{term.Number: " 7", term.Truth: " (lt 1 2)"}
	for _, o := range table {
		for wrong := range o.kids {
			x, s := with(o.op), "("+o.text
			for i := range o.kids {
				is := o.asked
				if i == wrong {
					is = term.Number + term.Truth - o.asked
				}
				x.Kids = append(x.Kids, kid[is])
				s += text[is]
			}
			wantCheck(t, x, 0, api.ErrType)
			wantText(t, x, s+")", api.OK)
			wantParse(t, s+")", x, api.OK)
			wantCheck(t, with(api.OpNot, with(api.OpEq, num(1), with(api.OpNeg, x))), 0, api.ErrType)
			wantCheck(t, with(api.OpAnd, kid[term.Truth], with(api.OpNot, x)), 0, api.ErrType)
		}
	}
}

// 3.1: numbers and variables, at their limits and one past them.
func TestLeaves(t *testing.T) {
	for _, c := range []struct {
		x api.Term
		s string
	}{
		{num(0), "0"}, {num(9), "9"}, {num(10), "10"}, {num(1 << 40), "1099511627776"}, {variable(0), "$0"}, {variable(3), "$3"},
	} {
		wantCheck(t, c.x, term.Number, api.OK)
		wantText(t, c.x, c.s, api.OK)
		wantParse(t, c.s, c.x, api.OK)
		c.x.Kids = []api.Term{}
		wantCheck(t, c.x, term.Number, api.OK)
		wantText(t, c.x, c.s, api.OK)
		c.x.Kids = []api.Term{num(1)}
		wantCheck(t, c.x, 0, api.ErrForm)
		wantText(t, c.x, "", api.ErrForm)
	}
	for _, x := range []api.Term{num(-1), num(1<<40 + 1), num(math.MinInt), num(math.MaxInt), variable(-1), variable(4), variable(math.MinInt), variable(math.MaxInt)} {
		wantCheck(t, x, 0, api.ErrForm)
		wantText(t, x, "", api.ErrForm)
		wantCheck(t, with(api.OpNeg, x), 0, api.ErrForm)
	}
	for _, op := range []int{-1, 0, 15, 16, math.MinInt, math.MaxInt} {
		for n := range 4 {
			x := with(op, slices.Repeat([]api.Term{num(1)}, n)...)
			wantCheck(t, x, 0, api.ErrForm)
			wantText(t, x, "", api.ErrForm)
			wantCheck(t, with(api.OpAdd, num(1), x), 0, api.ErrForm)
		}
	}
	wantCheck(t, api.Term{}, 0, api.ErrForm)
}

// 3.1: MaxDepth, and one more, which Parse finds to be no term's text.
func TestDepth(t *testing.T) {
	s := strings.Repeat("(neg ", 23) + "1" + strings.Repeat(")", 23)
	x := deep(24, num(1))
	wantCheck(t, x, term.Number, api.OK)
	wantText(t, x, s, api.OK)
	wantParse(t, s, x, api.OK)
	for _, levels := range []int{25, 26, 1000} {
		x := deep(levels, num(1))
		wantCheck(t, x, 0, api.ErrLong)
		wantText(t, x, "", api.ErrLong)
		s := strings.Repeat("(neg ", levels-1) + "1" + strings.Repeat(")", levels-1)
		wantParse(t, s, api.Term{}, api.ErrForm)
	}
	wantParse(t, "(add 1 "+s+")", api.Term{}, api.ErrForm)
	wantParse(t, "(add "+s+" 1)", api.Term{}, api.ErrForm)
	wantParse(t, "(add 1 "+s[len("(neg "):len(s)-1]+")", with(api.OpAdd, num(1), deep(23, num(1))), api.OK)
}

// 3.1: ErrLong, ErrForm and ErrType in this order, wherever they are.
func TestOrder(t *testing.T) {
	long, form, kind := deep(24, num(1)), num(-1), with(api.OpNot, num(1))
	for _, x := range []api.Term{
		with(api.OpAdd, long, form), with(api.OpAdd, form, long), with(api.OpAnd, kind, long), with(99, long), with(api.OpNum, long),
		with(api.OpNeg, form, form, long), {Op: api.OpNeg, N: 5, Kids: []api.Term{long}}, deep(25, form), deep(25, kind),
	} {
		wantCheck(t, x, 0, api.ErrLong)
		wantText(t, x, "", api.ErrLong)
	}
	for _, x := range []api.Term{with(api.OpAdd, kind, form), with(api.OpAdd, form, kind), with(api.OpNot, num(1), num(1)), with(api.OpNot, form), deep(24, form)} {
		wantCheck(t, x, 0, api.ErrForm)
		wantText(t, x, "", api.ErrForm)
	}
	wantCheck(t, deep(23, kind), 0, api.ErrType)
}

// full is a term whose text has just so many bytes: sums of sums 11 levels deep, the last number being as long as it takes.
func full(t *testing.T, bytes int) api.Term {
	t.Helper()
	build := func(n int) api.Term {
		level := slices.Repeat([]api.Term{num(10)}, 1<<11)
		for i := range min(n, len(level)) {
			level[i] = num(100)
		}
		for len(level) > 1 {
			for i := range len(level) / 2 {
				level[i] = with(api.OpAdd, level[2*i], level[2*i+1])
			}
			level = level[:len(level)/2]
		}
		return level[0]
	}
	s, e := term.Text(build(0))
	if e != api.OK || len(s) > bytes || len(s)+1<<11 < bytes {
		t.Fatalf("Text: %d bytes, %v", len(s), e)
	}
	return build(bytes - len(s))
}

// 3.1: MaxText bytes, and one more.
func TestLong(t *testing.T) {
	x := full(t, api.MaxText)
	s, e := term.Text(x)
	if len(s) != api.MaxText || e != api.OK {
		t.Fatalf("Text: %d bytes, %v", len(s), e)
	}
	if y := mustParse(t, s); !reflect.DeepEqual(x, y) {
		t.Error("Parse of MaxText bytes: another term")
	}
	wantParse(t, s[1:]+" ", api.Term{}, api.ErrForm)
	wantParse(t, s+" ", api.Term{}, api.ErrLong)
	wantParse(t, strings.Repeat("x", api.MaxText), api.Term{}, api.ErrForm)
	wantParse(t, strings.Repeat("x", api.MaxText+1), api.Term{}, api.ErrLong)
	wantParse(t, strings.Repeat("(", api.MaxText), api.Term{}, api.ErrForm)
	wantParse(t, strings.Repeat("9", api.MaxText), api.Term{}, api.ErrForm)

	y := full(t, api.MaxText+1)
	wantCheck(t, y, term.Number, api.OK)
	wantText(t, y, "", api.ErrFull)
	wantText(t, with(api.OpNeg, x), "", api.ErrFull)
	wantText(t, with(api.OpAdd, x, num(-1)), "", api.ErrForm)
	wantText(t, with(api.OpAdd, with(api.OpAdd, x, x), with(0)), "", api.ErrForm)
	wantText(t, with(api.OpAdd, with(api.OpAdd, x, x), deep(24, num(1))), "", api.ErrLong)
}

// 3.1: a text of which the last byte is one too many, wherever the longest part stands.
func TestTextEnd(t *testing.T) {
	for n := api.MaxText - 40; n < api.MaxText+20; n++ {
		x := full(t, n)
		for _, y := range []struct {
			x    api.Term
			rest string
		}{
			{with(api.OpSub, num(5), with(api.OpNeg, x)), "(sub 5 (neg ))"},
			{with(api.OpNeg, with(api.OpSub, x, num(5))), "(neg (sub  5))"},
			{with(api.OpSub, x, num(5)), "(sub  5)"},
			{with(api.OpNeg, x), "(neg )"},
		} {
			want := api.OK
			if n+len(y.rest) > api.MaxText {
				want = api.ErrFull
			}
			if s, e := term.Text(y.x); e != want || e == api.OK && len(s) != n+len(y.rest) || e != api.OK && s != "" {
				t.Errorf("Text of %s and %d bytes: %d, %v", y.rest, n, len(s), e)
			}
		}
	}
}

// 3.1: what is no term's text.
func TestParseWrong(t *testing.T) {
	for _, s := range []string{
		"", " ", "(", ")", "()", "( )", "$", "$$1", "$ 1", "$4", "$9", "$-1", "$00", "$01", "$10", "00", "01", "007", "-1", "+1", "1.", "1e3", "0x1", "1_000",
		"1099511627777", "1099511627780", "9999999999999", "18446744073709551616", "18446744073709551617", "36893488147419103233",
		"1 ", " 1", "1 2", "1\n", "\n1", "1)", "(1)", "($0)", "(1 2)", "($ 1)", "($0 1)", "( 1)", "x", "neg", "neg 1",
		"(neg)", "(neg )", "(neg 1", "(neg 1 )", "(neg  1)", "( neg 1)", "(neg\t1)", "(neg\n1)", "(neg1)", "(neg(neg 1))", "(neg 1))", "(neg 1) ", "(neg 1)(neg 1)", "((neg 1))",
		"(Neg 1)", "(NEG 1)", "(ne 1)", "(negg 1)", "(-  1)", "(add 1 2", "(add 1, 2)", "(add 1\x002)", "(add 1 2)\x00", "(add 1 2)\xff", "\xff", "(\xff 1)", "(neg \xff)",
		"(add (neg 1)(neg 2))", "(add (neg 1)  (neg 2))", "(add 1 (neg 2) )", "(and $0)", "(or 1 2 3)", "(not 1 2)", "(xor 1 2)", "(gt 1 2)", "(ge 1 2)", "(num 1)", "(var 1)",
		"\u0661", "\uff11", "$\u0661", "1\u0300", "(neg\u00a01)", "\ufeff1",
	} {
		wantParse(t, s, api.Term{}, api.ErrForm)
	}
}

// 3.1: the document's example, and longer texts.
func TestExample(t *testing.T) {
	const s = "(lt $0 (add 1 $3))"
	x := with(api.OpLt, variable(0), with(api.OpAdd, num(1), variable(3)))
	wantParse(t, s, x, api.OK)
	wantText(t, x, s, api.OK)
	wantCheck(t, x, term.Truth, api.OK)
	if n := term.Size(x); n != 5 {
		t.Errorf("Size: %d", n)
	}
	if l := term.Vars(x); !slices.Equal(l, []int{0, 3}) {
		t.Errorf("Vars: %v", l)
	}
}

// 3.2: Same.
func TestSame(t *testing.T) {
	l := []api.Term{
		{}, num(0), num(1), variable(1), variable(-9), {Op: 77}, with(77, num(1)), with(api.OpNum, num(1)),
		with(api.OpNeg, num(1)), with(api.OpNeg, num(2)), with(api.OpNeg), {Op: api.OpNeg, N: 1, Kids: []api.Term{num(1)}},
		with(api.OpAdd, num(1), num(2)), with(api.OpAdd, num(2), num(1)), with(api.OpAdd, num(1)), with(api.OpAdd, num(1), num(2), num(3)),
		with(api.OpSub, num(1), num(2)), with(api.OpAdd, num(1), with(api.OpNeg, num(2))), with(api.OpAdd, num(1), with(api.OpNeg, num(3))),
		deep(1000, num(1)), deep(1000, num(2)), deep(999, num(1)),
	}
	for i, a := range l {
		for j, b := range l {
			if term.Same(a, b) != (i == j) {
				t.Errorf("Same of %d and %d: %v", i, j, i != j)
			}
		}
		if c := anew(a); !term.Same(a, c) || !term.Same(c, a) {
			t.Errorf("Same of %d and a copy with empty lists: false", i)
		}
	}
}

// anew is a copy that has lists without elements for nil.
func anew(x api.Term) api.Term {
	kids := []api.Term{}
	for _, k := range x.Kids {
		kids = append(kids, anew(k))
	}
	x.Kids = kids
	return x
}

// 3.2: Vars and Size; of what is no right term as well.
func TestVarsAndSize(t *testing.T) {
	wide := with(api.OpAnd)
	for i := range 500 {
		wide.Kids = append(wide.Kids, variable(499-i), variable(i))
	}
	all := make([]int, 500)
	for i := range all {
		all[i] = i
	}
	for _, c := range []struct {
		x    api.Term
		vars []int
		size int
	}{
		{api.Term{}, nil, 1},
		{num(3), nil, 1},
		{variable(2), []int{2}, 1},
		{with(api.OpAdd, num(1), num(2)), nil, 3},
		{with(api.OpAdd, variable(3), variable(0)), []int{0, 3}, 3},
		{with(api.OpAdd, variable(1), variable(1)), []int{1}, 3},
		{with(api.OpAdd, with(api.OpSub, variable(2), variable(1)), with(api.OpNeg, with(api.OpMul, variable(3), variable(2)))), []int{1, 2, 3}, 8},
		{with(api.OpAdd, variable(7), with(0, variable(-2), variable(4))), []int{-2, 4, 7}, 5},
		{api.Term{Op: api.OpVar, N: 1, Kids: []api.Term{variable(0)}}, []int{0, 1}, 2},
		{api.Term{Op: api.OpNeg, N: 2, Kids: []api.Term{num(3)}}, nil, 2},
		{with(api.OpAdd, variable(math.MaxInt), variable(math.MinInt)), []int{math.MinInt, math.MaxInt}, 3},
		{deep(1000, variable(2)), []int{2}, 1000},
		{wide, all, 1001},
		{full(t, api.MaxText), nil, 4095},
	} {
		if l := term.Vars(c.x); !slices.Equal(l, c.vars) {
			t.Errorf("Vars(%s): %v; want %v", brief(c.x), l, c.vars)
		}
		if n := term.Size(c.x); n != c.size {
			t.Errorf("Size(%s): %d; want %d", brief(c.x), n, c.size)
		}
	}
}

// R3: nothing that is handed in changes, spare room too, and no two lists of an answer share memory.
func TestMemory(t *testing.T) {
	s := "(and (lt $3 (add 1 $1)) (or (eq 1 2) (not (le $1 2))))"
	x := mustParse(t, s)
	room := func(x api.Term) api.Term {
		x.Kids = append(append([]api.Term{}, x.Kids...), num(99))[:len(x.Kids)]
		return x
	}
	x = room(x)
	before := anew(x)
	term.Check(x)
	term.Text(x)
	term.Same(x, x)
	term.Size(x)
	if l := term.Vars(x); len(l) == 2 {
		l[0] = 88
		_ = append(l, 88)
	}
	if !reflect.DeepEqual(anew(x), before) || x.Kids[:3][2].N != 99 || !slices.Equal(term.Vars(x), []int{1, 3}) {
		t.Error("what was handed in has changed")
	}
	y := mustParse(t, s)
	spoil(&y)
	if z := mustParse(t, s); !term.Same(z, x) {
		t.Error("an answer has changed")
	}
	z := mustParse(t, s)
	_ = append(z.Kids[0].Kids, num(77))
	_ = append(z.Kids[1].Kids, num(77))
	_ = append(z.Kids, num(77))
	if !term.Same(z, x) {
		t.Error("lists of one answer share room")
	}
	spoil(&z.Kids[0])
	if !term.Same(z.Kids[1], x.Kids[1]) {
		t.Error("lists of one answer share memory")
	}
}

func spoil(x *api.Term) {
	for i := range x.Kids {
		spoil(&x.Kids[i])
	}
	*x = num(55)
}

// P3: calls end, of terms that lie in themselves as well.
func TestInThemselves(t *testing.T) {
	for _, op := range []int{api.OpNum, api.OpVar, api.OpNeg, api.OpAdd, 0, 99} {
		for n := 1; n < 4; n++ {
			kids := make([]api.Term, n)
			for i := range kids {
				kids[i] = api.Term{Op: op, Kids: kids}
			}
			x := api.Term{Op: op, Kids: kids}
			wantCheck(t, x, 0, api.ErrLong)
			wantText(t, x, "", api.ErrLong)
			term.Same(x, x)
			term.Vars(x)
			term.Size(x)
		}
	}
	half := make([]api.Term, 2)
	half[0] = deep(20, num(1))
	half[1] = with(api.OpAdd, half...)
	half[1].Kids = half
	x := with(api.OpAdd, half...)
	wantCheck(t, x, 0, api.ErrLong)
	wantText(t, x, "", api.ErrLong)
	term.Same(x, x)
	term.Vars(x)
	term.Size(x)
	term.Size(deep(100000, num(1)))
	term.Same(deep(100000, num(1)), deep(100000, num(1)))
}

// P3: 24 levels of two kids each, that share their memory: great, but no more than is allowed.
func TestGreat(t *testing.T) {
	x := num(1)
	for range 23 {
		x = with(api.OpAdd, x, x)
	}
	wantCheck(t, x, term.Number, api.OK)
	wantText(t, x, "", api.ErrFull)
	if n := term.Size(x); n != 1<<24-1 {
		t.Errorf("Size: %d", n)
	}
	if !term.Same(x, x) || len(term.Vars(x)) != 0 {
		t.Error("Same, or Vars")
	}
	wantCheck(t, with(api.OpNeg, x), 0, api.ErrLong)
	wantText(t, with(api.OpNeg, x), "", api.ErrLong)
}
