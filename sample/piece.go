package sample

import (
	"slices"

	"treenail/api"
	"treenail/block"
	"treenail/net"
)

// Piece is a block of a right process: any nodes in one another, as blocks may have them, wherever the process's flows lead.
// (It may be too large, though it seldom is.)
func Piece(n api.Net, pick func(int) int) block.Block {
	c := carver{net: n, pick: pick, left: order(len(n.Nodes), pick)}
	switch pick(6) {
	case 0:
		return block.Block{Kind: block.Rules}
	case 1, 2:
		return c.web()
	}
	return c.block(true)
}

// carver makes blocks of nodes that are left.
type carver struct {
	net  api.Net
	pick func(int) int
	left []int
}

// use lets nodes go; false, if one is gone already.
func (c *carver) use(nodes ...int) bool {
	for _, i := range nodes {
		at := slices.Index(c.left, i)
		if at < 0 {
			return false
		}
		c.left = slices.Delete(slices.Clone(c.left), at, at+1)
	}
	return true
}

// block is one that may stand in any other one; a Seq, only if it may be one.
func (c *carver) block(seq bool) block.Block {
	if len(c.left) == 0 || c.pick(8) == 0 {
		return block.Block{Kind: block.Empty}
	}
	if seq && c.pick(4) == 0 {
		return block.Block{Kind: block.Seq, Kids: c.blocks(2+c.pick(3), false)}
	}
	i := c.left[0]
	c.use(i)
	b := block.Block{Kind: c.kind(i), Node: i}
	switch b.Kind {
	case 0:
		return c.block(seq)
	case block.Leaf:
		return b
	case block.Loop:
		b.Arg = c.pick(2)
	}
	b.Kids = c.blocks(len(net.Outs(c.net, i)), true)
	return b
}

func (c *carver) blocks(count int, seq bool) []block.Block {
	var l []block.Block
	for range count {
		l = append(l, c.block(seq))
	}
	return l
}

// kind is a kind of which the block of a node may be; 0, if there is none.
func (c *carver) kind(i int) int {
	outs := net.Outs(c.net, i)
	switch kind := c.net.Nodes[i].Kind; {
	case kind == api.Task || kind == api.Assign || kind == api.Catch:
		return block.Leaf
	case kind == api.And && len(outs) > 1:
		return block.Par
	case kind == api.Xor && len(outs) == 2 && c.pick(2) == 0:
		return block.Loop
	case kind == api.Xor && len(outs) > 1:
		return block.Alt
	case kind == api.Event:
		var catches []int
		for _, f := range outs {
			catches = append(catches, c.net.Flows[f].To)
		}
		if c.use(catches...) {
			return block.Pick
		}
	}
	return 0
}

// web is one with links that lead anywhere.
func (c *carver) web() block.Block {
	b := block.Block{Kind: block.Web}
	gates := []int{api.Xor, api.And, api.Event}
	for range 1 + c.pick(6) {
		k := c.block(true)
		if len(c.left) > 0 && slices.Contains(gates, c.net.Nodes[c.left[0]].Kind) {
			k = block.Block{Kind: block.Gate, Node: c.left[0]}
			c.use(c.left[0])
		}
		b.Kids = append(b.Kids, k)
	}
	ends := [][2]int{{-1, c.pick(len(b.Kids))}, {c.pick(len(b.Kids)), -1}}
	for range c.pick(6) {
		if p := order(len(b.Kids), c.pick); len(p) > 1 {
			ends = append(ends, [2]int{p[0], p[1]})
		}
	}
	for _, i := range order(len(ends), c.pick) {
		b.Links = append(b.Links, block.Link{From: ends[i][0], To: ends[i][1], Flow: c.pick(len(c.net.Flows))})
	}
	return b
}
