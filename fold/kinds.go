package fold

import (
	"slices"

	"treenail/api"
	"treenail/block"
)

// fold does the first fold, and tells its kind; 0, if none can be done.
func (w *work) fold() int {
	kinds := [...]func(*work, int) bool{(*work).inRow, (*work).closed, (*work).round}
	for kind, done := range kinds {
		for i := range w.kids {
			if done(w, i) {
				return kind + 1
			}
		}
	}
	return 0
}

// inRow folds a block with the one behind it.
func (w *work) inRow(a int) bool {
	if !w.isBlock(a) {
		return false
	}
	between := w.outs[a][0]
	b := w.links[between].To
	if !w.isBlock(b) {
		return false
	}
	w.kids[a] = behind(w.kids[a], w.kids[b])
	w.links[w.outs[b][0]].From = a
	w.letGo(func(kid int) bool { return kid == b }, func(link int) bool { return link == between })
	return true
}

// behind is two blocks one behind the other.
func behind(a, b block.Block) block.Block {
	if (a.Kind == block.Empty) != (b.Kind == block.Empty) {
		if a.Kind == block.Empty {
			return b
		}
		return a
	}
	return block.Block{Kind: block.Seq, Kids: slices.Concat(rowOf(a), rowOf(b))}
}

// rowOf is what a Seq has in a row; of another block itself.
func rowOf(b block.Block) []block.Block {
	if b.Kind == block.Seq {
		return b.Kids
	}
	return []block.Block{b}
}

// closed folds a splitting Gate with all up to the one that joins what it split.
func (w *work) closed(s int) bool {
	kind, joint := closing(w.gateOf(s))
	if kind == 0 || len(w.outs[s]) < 2 {
		return false
	}
	paths := w.paths(w.outs[s])
	j := paths[0].to
	if w.gateOf(j) != joint || len(w.ins[j]) != len(paths) {
		return false
	}
	if slices.ContainsFunc(paths, func(p path) bool { return p.to != j }) {
		return false
	}
	kids, ok := w.branches(kind, paths)
	if !ok {
		return false
	}
	w.kids[s] = block.Block{Kind: kind, Node: w.kids[s].Node, Kids: kids}
	w.links[w.outs[j][0]].From = s
	w.letGoAll(j, paths...)
	return true
}

// closing is which block a splitting Gate of a kind of nodes is, and of which kind what joins it must be.
func closing(kind int) (int, int) {
	switch kind {
	case api.And:
		return block.Par, api.And
	case api.Xor:
		return block.Alt, api.Xor
	case api.Event:
		return block.Pick, api.Xor
	}
	return 0, 0
}

// branches are the kids of a block of that kind, by the paths that lead through it; false, if those of a Pick do not begin with their Catches.
func (w *work) branches(kind int, paths []path) ([]block.Block, bool) {
	var kids []block.Block
	for _, p := range paths {
		kid := w.on(p)
		if kind == block.Pick {
			l := rowOf(kid)
			if !w.isCatch(l[0], w.links[p.first].Flow) {
				return nil, false
			}
			kid = asOne(l[1:])
		}
		kids = append(kids, kid)
	}
	return kids, true
}

// isCatch tells whether a block is the Leaf of the Catch to which a flow of the process leads.
func (w *work) isCatch(b block.Block, flow int) bool {
	to := w.net.Flows[flow].To
	return b.Kind == block.Leaf && b.Node == to && w.net.Nodes[to].Kind == api.Catch
}

// asOne is one block of those that are in a row.
func asOne(l []block.Block) block.Block {
	switch len(l) {
	case 0:
		return block.Block{Kind: block.Empty}
	case 1:
		return l[0]
	}
	return block.Block{Kind: block.Seq, Kids: l}
}

// round folds a joining Xor with all up to the choice whether to go round again.
func (w *work) round(j int) bool {
	if w.gateOf(j) != api.Xor || len(w.ins[j]) != 2 {
		return false
	}
	ahead := w.path(w.outs[j][0])
	s := ahead.to
	if w.gateOf(s) != api.Xor || len(w.outs[s]) != 2 {
		return false
	}
	ways := w.paths(w.outs[s])
	if (ways[0].to == j) == (ways[1].to == j) {
		return false
	}
	leaves := 0
	if ways[0].to == j {
		leaves = 1
	}
	again := ways[1-leaves]
	kids := []block.Block{w.on(ahead), w.on(again)}
	w.kids[j] = block.Block{Kind: block.Loop, Node: w.kids[s].Node, Arg: leaves, Kids: kids}
	w.links[ways[leaves].first].From = j
	w.letGoAll(s, ahead, again)
	return true
}

// letGoAll lets a Gate go, and what lies on paths: their links and blocks.
func (w *work) letGoAll(gate int, paths ...path) {
	kid := func(i int) bool {
		return i == gate || slices.ContainsFunc(paths, func(p path) bool { return p.by == i })
	}
	link := func(i int) bool {
		return slices.ContainsFunc(paths, func(p path) bool { return p.first == i || p.last == i })
	}
	w.letGo(kid, link)
}
