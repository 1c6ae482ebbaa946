package eval

import "treenail/api"

// number is what a right term of a number is, where all values are numbers.
func number(t api.Term, vars [api.Vars]int) (int, api.Errno) {
	switch t.Op {
	case api.OpNum:
		return t.N, api.OK
	case api.OpVar:
		return vars[t.N], api.OK
	case api.OpNeg:
		n, err := number(t.Kids[0], vars)
		return -n, err
	}
	a, b, err := both(t, vars)
	if err != api.OK {
		return 0, err
	}
	return reckon(t.Op, a, b)
}

// truth is what a right term of a truth is, where all values are numbers.
func truth(t api.Term, vars [api.Vars]int) (bool, api.Errno) {
	switch t.Op {
	case api.OpNot:
		is, err := truth(t.Kids[0], vars)
		return err == api.OK && !is, err
	case api.OpAnd, api.OpOr:
		is, err := truth(t.Kids[0], vars)
		if err != api.OK || is == (t.Op == api.OpOr) {
			return is, err
		}
		return truth(t.Kids[1], vars)
	}
	a, b, err := both(t, vars)
	return err == api.OK && compare(t.Op, a, b), err
}

// both are the numbers that a term's two kids are.
func both(t api.Term, vars [api.Vars]int) (int, int, api.Errno) {
	a, err := number(t.Kids[0], vars)
	if err != api.OK {
		return 0, 0, err
	}
	b, err := number(t.Kids[1], vars)
	if err != api.OK {
		return 0, 0, err
	}
	return a, b, api.OK
}

func reckon(op, a, b int) (int, api.Errno) {
	switch op {
	case api.OpAdd:
		return fit(a + b)
	case api.OpSub:
		return fit(a - b)
	case api.OpMul:
		return product(a, b)
	}
	if b == 0 {
		return 0, api.ErrZero
	}
	if op == api.OpDiv {
		return a / b, api.OK
	}
	return a % b, api.OK
}

func compare(op, a, b int) bool {
	switch op {
	case api.OpEq:
		return a == b
	case api.OpLt:
		return a < b
	}
	return a <= b
}

func fit(n int) (int, api.Errno) {
	if !isNumber(n) {
		return 0, api.ErrOver
	}
	return n, api.OK
}

// product asks ahead of multiplying, since two numbers' product may be more than an int holds.
func product(a, b int) (int, api.Errno) {
	if a != 0 && size(b) > api.MaxInt/size(a) {
		return 0, api.ErrOver
	}
	return a * b, api.OK
}

func size(n int) int { return max(n, -n) }
