package sample

import (
	"slices"

	"treenail/api"
)

// Knit is a process that keeps all rules, without Events, in which nothing goes round: its ways part and meet wherever they are.
func Knit(pick func(int) int) api.Net {
	for {
		b := builder{pick: pick, room: 4 + pick(api.MaxNodes-3)}
		ends := []int{b.node(api.Start)}
		// There is room for a last joint and the End.
		for b.room > 2 {
			ends = b.knit(ends)
		}
		last := ends[0]
		if len(ends) > 1 {
			last = b.joint(ends)
		}
		b.link(last, b.node(api.End))
		if len(b.net.Flows) <= api.MaxFlows {
			return Choices(Shuffle(b.net, pick), pick)
		}
	}
}

// knit goes on at one of the nodes from which a flow is still to lead: to a node, to one that parts, or, with others, to one where they meet.
func (b *builder) knit(ends []int) []int {
	at := b.pick(len(ends))
	end, rest := ends[at], slices.Delete(slices.Clone(ends), at, at+1)
	switch k := b.pick(4); {
	case k == 0:
		x := b.node(b.gateKind())
		b.link(end, x)
		return append(rest, slices.Repeat([]int{x}, 2+b.pick(4)/3)...)
	case k == 1 || len(rest) == 0:
		x, _ := b.single()
		b.link(end, x)
		return append(rest, x)
	}
	with := 1 + b.pick(min(len(rest), 2))
	return append(rest[with:], b.joint(append(rest[:with:with], end)))
}

// joint is a gate of any kind to which all of these lead.
func (b *builder) joint(ends []int) int { return b.meet(b.gateKind(), ends) }

func (b *builder) gateKind() int {
	kinds := [...]int{api.Xor, api.And}
	return kinds[b.pick(len(kinds))]
}
