package block

import (
	"slices"

	"treenail/api"
	"treenail/nest"
)

// mostBlocks is how many blocks may be in one another.
const mostBlocks = 96

// way is a way through blocks, to so many levels and so many of them.
func way(levels, blocks int) nest.Way[Block] {
	kids := func(b Block) []Block { return b.Kids }
	return nest.Way[Block]{Kids: kids, Levels: levels, Things: blocks}
}

// through shows a block and all in it, till it is told false, and tells whether it came through all of them.
func through(b Block, to func(Block) bool) bool {
	return nest.Through(way(nest.MostLevels, nest.MostThings), b, to)
}

// tooLarge tells whether there are too many blocks, or they lie too deep.
func tooLarge(b Block) bool {
	return !nest.Through(way(api.MaxDepth, mostBlocks), b, func(Block) bool { return true })
}

// alike tells whether two blocks are the same but for their kids.
func alike(a, b Block) bool {
	return a.Kind == b.Kind && a.Node == b.Node && a.Arg == b.Arg && slices.Equal(a.Links, b.Links)
}
