package tree

import "treenail/api"

// tooLarge tells whether elements lie more than so many levels deep, or one has too many kids.
func tooLarge(e Elem, levels int) bool {
	if levels == 0 || len(e.Kids) > api.MaxKids {
		return true
	}
	for _, k := range e.Kids {
		if tooLarge(k, levels-1) {
			return true
		}
	}
	return false
}

// count is how many an element of these kids is, in its first so many levels, and at the most so many.
func count(kids []Elem, levels, most int) int {
	n := 1
	if levels == 1 {
		return n
	}
	for i := range kids {
		if n == most {
			break
		}
		n += count(kids[i].Kids, levels-1, most-n)
	}
	return n
}

// depth is how deep elements lie, at the most so many levels: where that is reached, no other kid is looked at.
func depth(e Elem, levels int) int {
	deepest := 0
	for _, k := range e.Kids {
		if deepest == levels-1 {
			break
		}
		deepest = max(deepest, depth(k, levels-1))
	}
	return deepest + 1
}
