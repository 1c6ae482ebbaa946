package web

import (
	"treenail/api"
	"treenail/block"
)

// decide takes the kids in their order, so that the fate of all ins of a kid is known when it is taken.
func decide(n api.Net, web block.Block, order, choices []int) (runs, taken []bool) {
	runs, taken = make([]bool, len(web.Kids)), make([]bool, len(web.Links))
	for _, f := range places(web.Links, func(l block.Link) bool { return l.From < 0 }) {
		taken[f] = true
	}
kids:
	for _, i := range order {
		ins := places(web.Links, func(l block.Link) bool { return l.To == i })
		outs := places(web.Links, func(l block.Link) bool { return l.From == i })
		gate := gateOf(n, web.Kids[i])
		// What is dead has a choice as well: it is passed over with it.
		if gate == api.Xor && len(outs) > 1 {
			outs, choices = choose(outs, choices)
		}
		spare := spares(gate, len(ins))
		for _, f := range ins {
			if taken[f] {
				continue
			}
			if spare == 0 {
				continue kids
			}
			spare--
		}
		runs[i] = true
		for _, f := range outs {
			taken[f] = true
		}
	}
	return runs, taken
}

// choose is the out that the first choice tells, and the choices behind it.
func choose(outs, choices []int) ([]int, []int) {
	if len(choices) == 0 {
		return outs[:1], nil
	}
	at := choices[0] % len(outs)
	return outs[at : at+1], choices[1:]
}

// spares is how many of so many ins may be dead of a kid that runs: of an And none, of all others all but one.
func spares(gate, ins int) int {
	if gate == api.And {
		return 0
	}
	return ins - 1
}

// places are those of the links of which it holds.
func places(links []block.Link, holds func(block.Link) bool) []int {
	var l []int
	for i, x := range links {
		if holds(x) {
			l = append(l, i)
		}
	}
	return l
}
