package sample

import (
	"slices"

	"treenail/api"
)

// Woven is a process that keeps all rules and comes to its end whatever is chosen, though it can seldom be folded whole: its ways part
// and meet at gates of one kind, wherever they are; between these lie blocks, and ways that part and meet at gates of the other kind.
func Woven(pick func(int) int) api.Net {
	for {
		b := builder{pick: pick, room: 6 + pick(api.MaxNodes-5)}
		start := b.node(api.Start)
		in, out := b.weave(b.gateKind())
		b.link(start, in)
		b.link(out, b.node(api.End))
		if len(b.net.Nodes) <= api.MaxNodes && len(b.net.Flows) <= api.MaxFlows {
			return Choices(Shuffle(b.net, pick), pick)
		}
	}
}

// weave is ways that part at a gate of a kind, and meet at others, wherever they are.
func (b *builder) weave(kind int) (int, int) {
	in := b.node(kind)
	ends := []int{in, in}
	for b.room > 1 && b.pick(8) > 0 {
		ends = b.cross(kind, ends)
	}
	if len(ends) == 1 {
		return in, ends[0]
	}
	return in, b.meet(kind, ends)
}

// cross goes on at one of the nodes from which a flow is still to lead.
func (b *builder) cross(kind int, ends []int) []int {
	at := b.pick(len(ends))
	end, rest := ends[at], slices.Delete(slices.Clone(ends), at, at+1)
	switch k := b.pick(5); {
	case k < 2 && len(rest) > 0:
		other := b.pick(len(rest))
		return append(slices.Delete(slices.Clone(rest), other, other+1), b.meet(kind, []int{rest[other], end}))
	case k < 4:
		x := b.node(kind)
		b.link(end, x)
		return append(rest, x, x)
	}
	in, out := b.between(kind)
	b.link(end, in)
	return append(rest, out)
}

// between is a block, or ways that part at gates of the other kind.
func (b *builder) between(kind int) (int, int) {
	if b.room < 6 || b.pick(3) > 0 {
		return b.block()
	}
	return b.weave(api.Xor + api.And - kind)
}

// meet is a gate of a kind to which all of these lead.
func (b *builder) meet(kind int, ends []int) int {
	x := b.node(kind)
	for _, i := range ends {
		b.link(i, x)
	}
	return x
}
