package block

import (
	"slices"

	"treenail/api"
	"treenail/net"
)

// stand tells which of the process's nodes stand in a block, or why it is none.
func stand(n api.Net, b Block) ([api.MaxNodes]bool, api.Errno) {
	var in [api.MaxNodes]bool
	if rule, _ := net.Check(n); rule != 0 {
		return in, api.ErrArg
	}
	if tooLarge(b) {
		return in, api.ErrLong
	}
	if !through(b, func(x Block) bool { return formed(n, x) }) {
		return in, api.ErrForm
	}
	enter := func(i int) bool {
		twice := in[i]
		in[i] = true
		return twice
	}
	if !through(b, func(x Block) bool { return !slices.ContainsFunc(nodes(n, x), enter) }) {
		return in, api.ErrSame
	}
	return in, api.OK
}

// formed tells whether a block is one; what its kids are in themselves is not looked at.
func formed(n api.Net, b Block) bool {
	if b.Arg != 0 && b.Kind != Loop || len(b.Links) > 0 && b.Kind != Web || !holds(b) {
		return false
	}
	switch b.Kind {
	case Empty, Rules:
		return b.Node == 0 && len(b.Kids) == 0
	case Seq:
		return b.Node == 0 && len(b.Kids) >= 2
	case Web:
		return b.Node == 0 && len(b.Kids) >= 1 && linked(n, b)
	case Leaf:
		return isOf(n, b.Node, api.Task, api.Assign, api.Catch) && len(b.Kids) == 0
	case Gate:
		return isOf(n, b.Node, api.Xor, api.And, api.Event) && len(b.Kids) == 0
	case Par:
		return splits(n, b, api.And)
	case Alt:
		return splits(n, b, api.Xor)
	case Pick:
		return splits(n, b, api.Event)
	case Loop:
		return splits(n, b, api.Xor) && len(b.Kids) == 2 && (b.Arg == 0 || b.Arg == 1)
	}
	return false
}

// holds tells whether each kid is of a kind that may be a kid of such a block.
func holds(b Block) bool {
	return !slices.ContainsFunc(b.Kids, func(k Block) bool {
		switch k.Kind {
		case Web, Rules:
			return true
		case Gate:
			return b.Kind != Web
		case Seq:
			return b.Kind == Seq
		}
		return false
	})
}

// linked tells whether a web's links are right.
func linked(n api.Net, web Block) bool {
	if len(web.Links) > api.MaxFlows {
		return false
	}
	ins, outs := 0, 0
	for _, l := range web.Links {
		if !isEnd(web, l.From) || !isEnd(web, l.To) || l.From == l.To || l.Flow < 0 || l.Flow >= len(n.Flows) {
			return false
		}
		if l.From == -1 {
			ins++
		}
		if l.To == -1 {
			outs++
		}
	}
	return ins == 1 && outs == 1
}

// isEnd tells whether a link of the web may begin or end there.
func isEnd(web Block, i int) bool { return i >= -1 && i < len(web.Kids) }

// splits tells whether a block's node is a splitting one of the kind, with as many outs as the block has kids.
func splits(n api.Net, b Block, kind int) bool {
	if !isOf(n, b.Node, kind) {
		return false
	}
	outs := len(net.Outs(n, b.Node))
	return outs >= 2 && len(b.Kids) == outs
}

// isOf tells whether i is a node of one of these kinds.
func isOf(n api.Net, i int, kinds ...int) bool {
	return i >= 0 && i < len(n.Nodes) && slices.Contains(kinds, n.Nodes[i].Kind)
}

// nodes are those that stand in a block by itself, without its kids.
func nodes(n api.Net, b Block) []int {
	switch b.Kind {
	case Leaf, Par, Alt, Loop, Gate:
		return []int{b.Node}
	case Pick:
		l := []int{b.Node}
		for _, f := range net.Outs(n, b.Node) {
			l = append(l, n.Flows[f].To)
		}
		return l
	}
	return nil
}
