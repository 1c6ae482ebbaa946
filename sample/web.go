package sample

import (
	"slices"

	"treenail/api"
	"treenail/block"
	"treenail/fold"
)

// Web is a web that can be folded, of a right process that has more than a Start and an End: that with which the process begins, or one
// behind some folds, with Empties between its kids, and its kids and links in any order.
func Web(n api.Net, pick func(int) int) block.Block {
	web, _ := fold.Begin(n)
	for range pick(6) {
		web, _, _ = fold.Step(n, web)
	}
	for len(web.Links) < api.MaxFlows && pick(3) > 0 {
		web = spread(web, pick(len(web.Links)))
	}
	return mixed(web, pick)
}

// CrossedWeb is a web that can be folded, but need not be one of the process's: links lead elsewhere, by other flows, and kids stand in it twice.
func CrossedWeb(n api.Net, pick func(int) int) block.Block {
	web := Web(n, pick)
	for range 1 + pick(6) {
		f, g := &web.Links[pick(len(web.Links))], &web.Links[pick(len(web.Links))]
		switch {
		case pick(4) == 0:
			f.Flow, g.Flow = g.Flow, f.Flow
		case f.From != g.To && g.From != f.To:
			f.To, g.To = g.To, f.To
		}
	}
	if i, j := pick(len(web.Kids)), pick(len(web.Kids)); pick(3) == 0 && web.Kids[i].Kind != block.Gate && web.Kids[j].Kind != block.Gate {
		web.Kids[i] = web.Kids[j]
	}
	return web
}

// spread is the web with an Empty on a link: the link leads to it, and a new one, by the same flow, from it.
func spread(web block.Block, link int) block.Block {
	kids, links := slices.Clone(web.Kids), slices.Clone(web.Links)
	more := links[link]
	links[link].To, more.From = len(kids), len(kids)
	return block.Block{Kind: block.Web, Kids: append(kids, block.Block{Kind: block.Empty}), Links: append(links, more)}
}

// mixed is the web with its kids and links in another order.
func mixed(web block.Block, pick func(int) int) block.Block {
	m := block.Block{Kind: block.Web, Kids: make([]block.Block, len(web.Kids)), Links: make([]block.Link, len(web.Links))}
	to := order(len(web.Kids), pick)
	for i, k := range web.Kids {
		m.Kids[to[i]] = k
	}
	// The outside keeps its place.
	place := func(i int) int {
		if i < 0 {
			return i
		}
		return to[i]
	}
	for i, at := range order(len(web.Links), pick) {
		l := web.Links[i]
		m.Links[at] = block.Link{From: place(l.From), To: place(l.To), Flow: l.Flow}
	}
	return m
}
