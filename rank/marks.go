package rank

import "slices"

// within tells whether i is one of n things.
func within(n, i int) bool { return i >= 0 && i < n }

// things are those of n of which it holds.
func things(n int, holds func(int) bool) []int {
	var l []int
	for i := range n {
		if holds(i) {
			l = append(l, i)
		}
	}
	return l
}

// markFrom marks all that one meets, itself as well.
func markFrom(n int, l []Edge, from int) []bool {
	met := make([]bool, n)
	met[from] = true
search:
	for {
		for _, e := range l {
			if met[e.From] && !met[e.To] {
				met[e.To] = true
				continue search
			}
		}
		return met
	}
}

// goesRound asks for an edge that leads back: one meets itself also over no edge at all.
func goesRound(n int, l []Edge, i int) bool {
	met := markFrom(n, l, i)
	return slices.ContainsFunc(l, func(e Edge) bool { return e.To == i && met[e.From] })
}

// turned are the edges, each the other way round.
func turned(l []Edge) []Edge {
	back := make([]Edge, len(l))
	for i, e := range l {
		back[i] = Edge{From: e.To, To: e.From}
	}
	return back
}

// take is the order as far as it goes: what goes round, and what is behind that, is never taken.
func take(n int, l []Edge) []int {
	taken := make([]bool, n)
	var order []int
next:
	for {
		for i := range n {
			if !taken[i] && free(l, taken, i) {
				taken[i] = true
				order = append(order, i)
				continue next
			}
		}
		return order
	}
}

// free tells whether all that lead to a thing are taken.
func free(l []Edge, taken []bool, i int) bool {
	return !slices.ContainsFunc(l, func(e Edge) bool { return e.To == i && !taken[e.From] })
}
