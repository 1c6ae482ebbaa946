package sound

import (
	"treenail/api"
	"treenail/block"
)

// What is wrong with a marking.
const (
	tooMany = 1
	left    = 2
	stuck   = 3
)

// marking is which links hold a token: the bit of a link's place is set. A web has no more than MaxFlows links.
type marking uint64

// move takes tokens from some links and puts some on others.
type move struct{ takes, puts marking }

// game is a web that is played: where it begins, the link out of it, and all moves that there may be, in their order.
type game struct {
	first, last marking
	moves       []move
}

// lay is the game of a web that fold.Step takes.
func lay(n api.Net, web block.Block) game {
	ins, outs := make([][]marking, len(web.Kids)), make([][]marking, len(web.Kids))
	var g game
	for i, l := range web.Links {
		bit := marking(1) << i
		if l.From < 0 {
			g.first = bit
		} else {
			outs[l.From] = append(outs[l.From], bit)
		}
		if l.To < 0 {
			g.last = bit
		} else {
			ins[l.To] = append(ins[l.To], bit)
		}
	}
	for i, k := range web.Kids {
		g.moves = append(g.moves, moves(n, k, ins[i], outs[i])...)
	}
	return g
}

// moves are those of a kid with these ins and outs.
func moves(n api.Net, kid block.Block, ins, outs []marking) []move {
	if kid.Kind == block.Gate && n.Nodes[kid.Node].Kind == api.And {
		return []move{{takes: all(ins), puts: all(outs)}}
	}
	// Every other kid takes one token and puts one: a Gate has one in or one out, a block both.
	var l []move
	for _, in := range ins {
		for _, out := range outs {
			l = append(l, move{takes: in, puts: out})
		}
	}
	return l
}

// all is the marking in which all these links hold a token.
func all(links []marking) marking {
	var m marking
	for _, bit := range links {
		m |= bit
	}
	return m
}

// play looks at markings in the order in which they are found. It needs not stop at those in which the link out of the web holds a token:
// they are wrong, or have no move.
func (g game) play() (int, int, api.Errno) {
	found := []marking{g.first}
	known := map[marking]struct{}{g.first: {}}
	for i := 0; i < len(found); i++ {
		next, wrong := g.look(found[i])
		if wrong != 0 {
			return wrong, i, api.OK
		}
		for _, m := range next {
			if _, ok := known[m]; !ok {
				known[m] = struct{}{}
				found = append(found, m)
			}
		}
		if len(found) > Most {
			return 0, 0, api.ErrFull
		}
	}
	return 0, len(found), api.OK
}

// look is what the moves of a marking lead to, and what is wrong with it.
func (g game) look(m marking) ([]marking, int) {
	var next []marking
	for _, x := range g.moves {
		if m&x.takes != x.takes {
			continue
		}
		rest := m &^ x.takes
		if rest&x.puts != 0 {
			return nil, tooMany
		}
		next = append(next, rest|x.puts)
	}
	if m&g.last != 0 && m != g.last {
		return nil, left
	}
	if len(next) == 0 && m != g.last {
		return nil, stuck
	}
	return next, 0
}
