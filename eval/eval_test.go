package eval_test

import (
	"math"
	"slices"
	"testing"

	"treenail/api"
	"treenail/eval"
	"treenail/term"
)

const most = 1 << 40

func parse(t *testing.T, s string) api.Term {
	t.Helper()
	x, e := term.Parse(s)
	if e != api.OK {
		t.Fatalf("Parse(%q): %v", s, e)
	}
	return x
}

// brief is a term's text, for telling it; empty of one that has none.
func brief(x api.Term) string {
	s, _ := term.Text(x)
	return s
}

func wantNumber(t *testing.T, x api.Term, vars [api.Vars]int, n int, want api.Errno) {
	t.Helper()
	if g, e := eval.Number(x, vars); g != n || e != want {
		t.Errorf("Number(%q, %v): %d, %v; want %d, %v", brief(x), vars, g, e, n, want)
	}
}

func wantTruth(t *testing.T, x api.Term, vars [api.Vars]int, is bool, want api.Errno) {
	t.Helper()
	if g, e := eval.Truth(x, vars); g != is || e != want {
		t.Errorf("Truth(%q, %v): %v, %v; want %v, %v", brief(x), vars, g, e, is, want)
	}
}

// 4.1: numbers, and their faults.
func TestNumber(t *testing.T) {
	vars := [api.Vars]int{5, -7, most, -most}
	for s, n := range map[string]int{
		"0": 0, "1099511627776": most, "$0": 5, "$1": -7, "$2": most, "$3": -most,
		"(neg 0)": 0, "(neg 1)": -1, "(neg $1)": 7, "(neg $2)": -most, "(neg $3)": most,
		"(add 2 3)": 5, "(add $2 $3)": 0, "(add $2 0)": most, "(add $3 0)": -most, "(add $3 (neg 0))": -most,
		"(sub 2 3)": -1, "(sub $2 $2)": 0, "(sub $3 0)": -most, "(sub 0 $3)": most,
		"(mul $0 $1)": -35, "(mul $2 1)": most, "(mul $3 1)": -most, "(mul $3 (neg 1))": most, "(mul 0 $2)": 0, "(mul $3 0)": 0,
		"(mul 1048576 1048576)": most, "(mul (neg 1048576) 1048576)": -most, "(mul 3 366503875925)": most - 1,
		"(div 7 2)": 3, "(div 7 (neg 2))": -3, "(div (neg 7) 2)": -3, "(div (neg 7) (neg 2))": 3, "(div 1 2)": 0, "(div (neg 1) 2)": 0,
		"(div $3 (neg 1))": most, "(div $2 $3)": -1, "(div 0 5)": 0, "(div 6 3)": 2,
		"(mod 7 2)": 1, "(mod 7 (neg 2))": 1, "(mod (neg 7) 2)": -1, "(mod (neg 7) (neg 2))": -1, "(mod 6 3)": 0, "(mod (neg 6) 3)": 0,
		"(mod 1 $2)": 1, "(mod (neg 1) $2)": -1, "(mod $3 $2)": 0, "(mod $3 (neg 1))": 0,
	} {
		wantNumber(t, parse(t, s), vars, n, api.OK)
	}
	for _, s := range []string{
		"(add $2 1)", "(add 1 $2)", "(add $3 (neg 1))", "(add $2 $2)", "(add $3 $3)", "(sub $3 1)", "(sub $2 (neg 1))", "(sub $2 $3)", "(sub $3 $2)",
		"(mul $2 2)", "(mul 2 $3)", "(mul $2 $2)", "(mul $3 $3)", "(mul $2 $3)", "(mul 1048576 1048577)", "(mul (neg 1048577) 1048576)", "(mul 3 366503875926)",
		"(mul 4294967296 4294967296)", "(mul 8589934592 2147483648)", "(mul $2 16777216)", "(mul $2 8388608)", "(mul 4294967296 4294967297)",
		"(neg (add $2 1))", "(div (add $2 1) 0)", "(mod (mul $2 $2) (div 1 0))", "(sub (add $2 1) (div 1 0))",
	} {
		wantNumber(t, parse(t, s), vars, 0, api.ErrOver)
	}
	for _, s := range []string{
		"(div 1 0)", "(div 0 0)", "(mod 1 0)", "(mod 0 0)", "(div $2 (sub 5 $0))", "(neg (div 1 0))", "(add (div 1 0) (add $2 1))", "(add (mod 1 0) 1)", "(add 1 (mod 1 0))", "(mul 0 (div 1 0))",
	} {
		wantNumber(t, parse(t, s), vars, 0, api.ErrZero)
	}
}

// 4.1: truths, and their faults.
func TestTruth(t *testing.T) {
	vars := [api.Vars]int{5, -7, most, -most}
	for s, is := range map[string]bool{
		"(eq 5 $0)": true, "(eq 5 $1)": false, "(lt $1 $0)": true, "(lt $0 $1)": false, "(lt $0 5)": false, "(lt $3 $2)": true,
		"(le $0 5)": true, "(le $0 4)": false, "(le $1 4)": true, "(le $2 $3)": false,
		"(not (eq 1 1))": false, "(not (eq 1 2))": true, "(not (not (eq 1 1)))": true,
		"(and (eq 1 1) (eq 2 2))": true, "(and (eq 1 1) (eq 1 2))": false, "(and (eq 1 2) (eq 1 1))": false, "(and (eq 1 2) (eq 1 2))": false,
		"(or (eq 1 1) (eq 2 2))": true, "(or (eq 1 1) (eq 1 2))": true, "(or (eq 1 2) (eq 1 1))": true, "(or (eq 1 2) (eq 1 2))": false,
		"(or (eq 1 1) (eq 1 (div 1 0)))": true, "(and (eq 1 2) (eq 1 (div 1 0)))": false,
		"(not (or (eq 1 1) (eq (add $2 1) 1)))": false, "(and (not (eq 1 1)) (lt (add $2 1) 1))": false,
		"(or (and (eq 1 2) (eq (div 1 0) 1)) (eq 1 1))": true,
	} {
		wantTruth(t, parse(t, s), vars, is, api.OK)
	}
	for _, s := range []string{
		"(eq (div 1 0) 1)", "(eq 1 (div 1 0))", "(lt (mod 1 0) (add $2 1))", "(le 1 (mod 1 0))", "(not (eq (div 1 0) 1))",
		"(and (eq 1 1) (eq (div 1 0) 1))", "(or (eq 1 2) (eq (div 1 0) 1))", "(and (eq (div 1 0) 1) (eq (add $2 1) 1))", "(or (eq (div 1 0) 1) (eq 1 1))",
	} {
		wantTruth(t, parse(t, s), vars, false, api.ErrZero)
	}
	for _, s := range []string{
		"(eq (add $2 1) 1)", "(le (add $2 1) (div 1 0))", "(not (lt $2 (add $2 1)))", "(and (eq (add $2 1) 1) (eq (div 1 0) 1))", "(or (eq (sub $3 1) 1) (eq 1 1))",
	} {
		wantTruth(t, parse(t, s), vars, false, api.ErrOver)
	}
}

// 4.1: term.Check's errors, then ErrType, then ErrArg, then faults.
func TestErrors(t *testing.T) {
	good, wrong := [api.Vars]int{}, [api.Vars]int{0, 0, 0, most + 1}
	deep := api.Term{Op: api.OpNum, N: -1}
	for range 24 {
		deep = api.Term{Op: api.OpNeg, Kids: []api.Term{deep}}
	}
	number, truth := parse(t, "(div 1 0)"), parse(t, "(eq (div 1 0) 1)")
	for _, vars := range [][api.Vars]int{good, wrong} {
		for _, c := range []struct {
			x api.Term
			e api.Errno
		}{
			{deep, api.ErrLong}, {api.Term{}, api.ErrForm}, {api.Term{Op: api.OpVar, N: 4}, api.ErrForm}, {api.Term{Op: api.OpVar, N: -1}, api.ErrForm},
			{api.Term{Op: api.OpAdd}, api.ErrForm}, {api.Term{Op: api.OpNot}, api.ErrForm}, {api.Term{Op: api.OpNum, N: most + 1}, api.ErrForm},
			{parse(t, "(not 1)"), api.ErrType}, {parse(t, "(add 1 (eq 1 1))"), api.ErrType}, {parse(t, "(or (eq 1 1) (and 1 2))"), api.ErrType},
		} {
			wantNumber(t, c.x, vars, 0, c.e)
			wantTruth(t, c.x, vars, false, c.e)
		}
		wantNumber(t, truth, vars, 0, api.ErrType)
		wantTruth(t, number, vars, false, api.ErrType)
	}
	wantNumber(t, number, wrong, 0, api.ErrArg)
	wantTruth(t, truth, wrong, false, api.ErrArg)
	wantNumber(t, number, good, 0, api.ErrZero)
	wantTruth(t, truth, good, false, api.ErrZero)
}

// 4.1 and 4.2: each variable's value, at the limits and one past them, whether it stands in the term or not.
func TestValues(t *testing.T) {
	for v := range api.Vars {
		for _, n := range []int{-most, most, -most - 1, most + 1, math.MinInt, math.MaxInt} {
			vars := [api.Vars]int{}
			vars[v] = n
			fits, want := n >= -most && n <= most, api.ErrArg
			one := 0
			if fits {
				want, one = api.OK, 1
			}
			if eval.Fits(vars) != fits {
				t.Errorf("Fits(%v): %v", vars, !fits)
			}
			wantNumber(t, parse(t, "1"), vars, one, want)
			wantTruth(t, parse(t, "(eq 1 1)"), vars, fits, want)
		}
	}
	if !eval.Fits([api.Vars]int{}) || !eval.Fits([api.Vars]int{most, -most, most, -most}) {
		t.Error("Fits of numbers: false")
	}
}

// 4.2: Set, at the limits and one past them.
func TestSet(t *testing.T) {
	vars := [api.Vars]int{10, 20, 30, 40}
	for v := range api.Vars {
		for _, n := range []int{-most, -1, 0, 7, most} {
			want := vars
			want[v] = n
			if g, e := eval.Set(vars, v, n); g != want || e != api.OK {
				t.Errorf("Set(%v, %d, %d): %v, %v", vars, v, n, g, e)
			}
		}
		for _, n := range []int{-most - 1, most + 1, math.MinInt, math.MaxInt} {
			if g, e := eval.Set(vars, v, n); g != [api.Vars]int{} || e != api.ErrArg {
				t.Errorf("Set(%v, %d, %d): %v, %v; want ErrArg", vars, v, n, g, e)
			}
		}
	}
	for _, v := range []int{-1, api.Vars, math.MinInt, math.MaxInt} {
		if g, e := eval.Set(vars, v, 0); g != [api.Vars]int{} || e != api.ErrArg {
			t.Errorf("Set(%v, %d, 0): %v, %v; want ErrArg", vars, v, g, e)
		}
	}
	if vars != [api.Vars]int{10, 20, 30, 40} {
		t.Errorf("values have changed: %v", vars)
	}
	past := [api.Vars]int{most + 1, 0, 0, math.MinInt}
	if g, e := eval.Set(past, 0, 1); g != [api.Vars]int{1, 0, 0, math.MinInt} || e != api.OK {
		t.Errorf("Set of values that are none: %v, %v", g, e)
	}
}

// 4.3: variables that do not stand in a term say nothing.
func TestOthers(t *testing.T) {
	for _, s := range []string{"(add $1 (div 12 $3))", "(mul $2 $2)", "(mod $0 3)", "7"} {
		x := parse(t, s)
		in := term.Vars(x)
		vars := [api.Vars]int{5, 6, 7, 8}
		n, e := eval.Number(x, vars)
		for v := range api.Vars {
			for _, m := range []int{-most, -1, 0, 1, most} {
				if vars := vars; !slices.Contains(in, v) {
					vars[v] = m
					wantNumber(t, x, vars, n, e)
				}
			}
		}
	}
}

// R3 and P3: a term is not changed; one that lies in itself has an answer.
func TestTermsStay(t *testing.T) {
	x := parse(t, "(or (lt $0 (add 1 $3)) (not (eq (neg $1) (mod 5 2))))")
	before := parse(t, "(or (lt $0 (add 1 $3)) (not (eq (neg $1) (mod 5 2))))")
	eval.Truth(x, [api.Vars]int{1, 2, 3, 4})
	eval.Number(x.Kids[0].Kids[1], [api.Vars]int{1, 2, 3, 4})
	if !term.Same(x, before) {
		t.Error("a term has changed")
	}
	kids := make([]api.Term, 2)
	kids[0] = api.Term{Op: api.OpAdd, Kids: kids}
	kids[1] = kids[0]
	wantNumber(t, kids[0], [api.Vars]int{}, 0, api.ErrLong)
	wantTruth(t, kids[0], [api.Vars]int{}, false, api.ErrLong)
}

// P3: as great a term as is allowed.
func TestGreat(t *testing.T) {
	x := api.Term{Op: api.OpVar, N: 1}
	for range 23 {
		x = api.Term{Op: api.OpAdd, Kids: []api.Term{x, x}}
	}
	wantNumber(t, x, [api.Vars]int{0, 3, 0, 0}, 3<<23, api.OK)
	wantNumber(t, x, [api.Vars]int{0, 1<<17 + 1, 0, 0}, 0, api.ErrOver)
}
