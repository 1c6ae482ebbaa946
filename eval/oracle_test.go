package eval_test

import (
	"math/big"
	"math/rand"
	"testing"

	"treenail/api"
	"treenail/eval"
	"treenail/term"
)

// fault is what the other reading throws.
type fault struct{ errno api.Errno }

var greatest = big.NewInt(most)

// reckoned is another reading of what a term is: numbers without a limit, truths as 1 and 0, faults thrown.
func reckoned(x api.Term, vars [api.Vars]int) *big.Int {
	kid := func(i int) *big.Int { return reckoned(x.Kids[i], vars) }
	var a, b *big.Int
	if len(x.Kids) > 0 {
		a = kid(0)
	}
	if x.Op == api.OpAnd && a.Sign() == 0 || x.Op == api.OpOr && a.Sign() != 0 {
		return a
	}
	if len(x.Kids) > 1 {
		b = kid(1)
	}
	out := new(big.Int)
	switch x.Op {
	case api.OpNum:
		out.SetInt64(int64(x.N))
	case api.OpVar:
		out.SetInt64(int64(vars[x.N]))
	case api.OpNeg:
		out.Neg(a)
	case api.OpNot:
		out.Sub(big.NewInt(1), a)
	case api.OpAdd:
		out.Add(a, b)
	case api.OpSub:
		out.Sub(a, b)
	case api.OpMul:
		out.Mul(a, b)
	case api.OpDiv, api.OpMod:
		if b.Sign() == 0 {
			panic(fault{api.ErrZero})
		}
		rest := new(big.Int)
		out.QuoRem(a, b, rest)
		if x.Op == api.OpMod {
			out = rest
		}
	case api.OpEq:
		out = truth(a.Cmp(b) == 0)
	case api.OpLt:
		out = truth(a.Cmp(b) < 0)
	case api.OpLe:
		out = truth(a.Cmp(b) <= 0)
	case api.OpAnd, api.OpOr:
		out = b
	}
	if out.CmpAbs(greatest) > 0 {
		panic(fault{api.ErrOver})
	}
	return out
}

func truth(is bool) *big.Int {
	if is {
		return big.NewInt(1)
	}
	return new(big.Int)
}

func caught(x api.Term, vars [api.Vars]int) (n int, e api.Errno) {
	defer func() {
		if f, ok := recover().(fault); ok {
			n, e = 0, f.errno
		}
	}()
	return int(reckoned(x, vars).Int64()), api.OK
}

func anyValue(r *rand.Rand) int {
	n := []int{0, 1, 2, 3, 7, 1 << 20, 1<<20 + 1, most - 1, most, r.Intn(100), r.Intn(1 << 21), r.Intn(most)}[r.Intn(12)]
	if r.Intn(2) == 0 {
		return -n
	}
	return n
}

// anyTerm is a right term of a type.
func anyTerm(r *rand.Rand, is, levels int) api.Term {
	if is == term.Number && (levels <= 1 || r.Intn(5) == 0) {
		if r.Intn(2) == 0 {
			return api.Term{Op: api.OpVar, N: r.Intn(api.Vars)}
		}
		return api.Term{Op: api.OpNum, N: max(0, anyValue(r))}
	}
	ops := []int{api.OpNeg, api.OpAdd, api.OpSub, api.OpMul, api.OpDiv, api.OpMod}
	asked := term.Number
	if is == term.Truth {
		ops = []int{api.OpEq, api.OpLt, api.OpLe}
		if levels > 2 && r.Intn(3) > 0 {
			ops, asked = []int{api.OpNot, api.OpAnd, api.OpOr}, term.Truth
		}
	}
	x := api.Term{Op: ops[r.Intn(len(ops))]}
	x.Kids = append(x.Kids, anyTerm(r, asked, levels-1))
	if x.Op != api.OpNeg && x.Op != api.OpNot {
		x.Kids = append(x.Kids, anyTerm(r, asked, levels-1))
	}
	return x
}

// 4.1 and 4.3: each right term is a number, a truth, or one of two faults: the one that the other reading finds.
func TestAnyTerms(t *testing.T) {
	r := rand.New(rand.NewSource(5))
	seen := map[api.Errno]int{}
	for range 200000 {
		vars := [api.Vars]int{anyValue(r), anyValue(r), anyValue(r), anyValue(r)}
		x := anyTerm(r, term.Number, 1+r.Intn(5))
		n, e := caught(x, vars)
		seen[e]++
		wantNumber(t, x, vars, n, e)
		y := anyTerm(r, term.Truth, 2+r.Intn(4))
		n, e = caught(y, vars)
		seen[e]++
		wantTruth(t, y, vars, n == 1, e)
		if e != api.OK && e != api.ErrOver && e != api.ErrZero {
			t.Errorf("a fault of another kind: %v", e)
		}
	}
	if seen[api.OK] < 1000 || seen[api.ErrOver] < 1000 || seen[api.ErrZero] < 1000 {
		t.Errorf("too few of a kind: %v", seen)
	}
}

// 4.1: products about the limit, of all sizes.
func TestProducts(t *testing.T) {
	x := api.Term{Op: api.OpMul, Kids: []api.Term{{Op: api.OpVar, N: 0}, {Op: api.OpVar, N: 1}}}
	for bits := range 41 {
		for _, near := range []int{-1, 0, 1} {
			a := min(most, max(1, 1<<bits+near))
			for _, b := range []int{most/a - 1, most / a, most/a + 1} {
				for _, vars := range [][api.Vars]int{{a, b}, {-a, b}, {a, -b}, {-a, -b}} {
					if eval.Fits(vars) {
						n, e := caught(x, vars)
						wantNumber(t, x, vars, n, e)
					}
				}
			}
		}
	}
}
