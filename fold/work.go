package fold

import (
	"slices"

	"treenail/api"
	"treenail/block"
	"treenail/net"
)

// outside is the place from which a link leads into a web, and to which one leads out of it.
const outside = -1

// work is a web that is folded. Its lists are its own.
type work struct {
	net       api.Net
	kids      []block.Block
	links     []block.Link
	ins, outs [][]int // of each kid: the places of these links, rising
}

// lay is a copy of a web, to be folded.
func lay(n api.Net, web block.Block) *work {
	own := copied(web)
	w := &work{net: n, kids: own.Kids, links: own.Links}
	w.join()
	return w
}

// copied is a block that shares nothing with another one.
func copied(b block.Block) block.Block {
	b.Kids, b.Links = slices.Clone(b.Kids), slices.Clone(b.Links)
	for i, k := range b.Kids {
		b.Kids[i] = copied(k)
	}
	return b
}

// join finds the ins and outs of all kids.
func (w *work) join() {
	w.ins, w.outs = make([][]int, len(w.kids)), make([][]int, len(w.kids))
	for i, l := range w.links {
		if l.To != outside {
			w.ins[l.To] = append(w.ins[l.To], i)
		}
		if l.From != outside {
			w.outs[l.From] = append(w.outs[l.From], i)
		}
	}
}

// fits tells whether each kid has as many ins and outs as it must.
func (w *work) fits() bool {
	for i, k := range w.kids {
		ins, outs := 1, 1
		if k.Kind == block.Gate {
			ins, outs = len(net.Ins(w.net, k.Node)), len(net.Outs(w.net, k.Node))
		}
		if len(w.ins[i]) != ins || len(w.outs[i]) != outs {
			return false
		}
	}
	return true
}

// web is what it is now.
func (w *work) web() block.Block {
	return block.Block{Kind: block.Web, Kids: w.kids, Links: w.links}
}

// left is what is left of a process. A kid that is a block and the only one has its links from and to the outside:
// as every node is led to from the Start, none leads from it to itself.
func (w *work) left() block.Block {
	if len(w.kids) == 0 {
		return block.Block{Kind: block.Empty}
	}
	if len(w.kids) == 1 && w.isBlock(0) {
		return w.kids[0]
	}
	return w.web()
}

// letGo lets those kids and links go of which it is told so; links lead to the kids' new places then.
func (w *work) letGo(kid, link func(place int) bool) {
	places := make([]int, len(w.kids))
	left := 0
	for i := range w.kids {
		places[i] = left
		if !kid(i) {
			left++
		}
	}
	w.kids, w.links = without(w.kids, kid), without(w.links, link)
	for i, l := range w.links {
		if l.From != outside {
			w.links[i].From = places[l.From]
		}
		if l.To != outside {
			w.links[i].To = places[l.To]
		}
	}
	w.join()
}

// without is a copy of a list without what goes.
func without[T any](l []T, goes func(place int) bool) []T {
	var left []T
	for i, x := range l {
		if !goes(i) {
			left = append(left, x)
		}
	}
	return left
}

// isBlock tells whether a kid is there, and no Gate.
func (w *work) isBlock(i int) bool { return i != outside && w.kids[i].Kind != block.Gate }

// gateOf is the kind of a Gate's node; 0 of a block, and of the outside.
func (w *work) gateOf(i int) int {
	if i == outside || w.isBlock(i) {
		return 0
	}
	return w.net.Nodes[w.kids[i].Node].Kind
}

// path is how a link leads to a Gate or to the outside, by way of nothing or of a block.
type path struct {
	to          int
	by          int // the block's place; outside: nothing
	first, last int // the link, and, if there is a block, its out
}

func (w *work) path(link int) path {
	to := w.links[link].To
	if !w.isBlock(to) {
		return path{to: to, by: outside, first: link, last: link}
	}
	out := w.outs[to][0]
	return path{to: w.links[out].To, by: to, first: link, last: out}
}

func (w *work) paths(links []int) []path {
	var l []path
	for _, i := range links {
		l = append(l, w.path(i))
	}
	return l
}

// on is the block by way of which a path leads; Empty: nothing.
func (w *work) on(p path) block.Block {
	if p.by == outside {
		return block.Block{Kind: block.Empty}
	}
	return w.kids[p.by]
}
