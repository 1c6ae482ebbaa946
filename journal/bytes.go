package journal

import (
	"treenail/api"
	"treenail/engine"
)

const (
	digits  = 6                // bytes of a number
	size    = 1 + 2*digits + 4 // bytes of a record
	modulus = 65521            // of a sum's two numbers
)

func isNumber(n int) bool { return n >= 0 && n <= api.MaxInt }

// appendNumber puts a number's bytes behind others, the lowest first.
func appendNumber(b []byte, n int) []byte {
	left := digits
next:
	b = append(b, byte(n))
	n >>= 8
	left--
	if left > 0 {
		goto next
	}
	return b
}

// appendPair puts two bytes behind others, the lower first.
func appendPair(b []byte, n int) []byte { return append(b, byte(n), byte(n>>8)) }

// number is what the first bytes of a text are as a number.
func number(b string) int {
	n := 0
	for i := range digits {
		n |= int(b[i]) << (8 * i)
	}
	return n
}

// read is the step of the record with which a text begins, and whether that is right at its place: the step's own record is the same bytes then.
func read(b string, place int) (engine.Step, bool) {
	if len(b) < size {
		return engine.Step{}, false
	}
	s := engine.Step{What: int(b[0]), Key: number(b[1:]), N: number(b[1+digits:])}
	if r, err := Record(s, place); err != api.OK || r != b[:size] {
		return engine.Step{}, false
	}
	return s, true
}
