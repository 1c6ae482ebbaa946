package sample

import (
	"slices"
	"strings"

	"treenail/block"
)

// Block is the block of a text (block.Text), which must be one.
func Block(text string) block.Block {
	for _, c := range [...]string{"(", ")", "[", "]"} {
		text = strings.ReplaceAll(text, c, " "+c+" ")
	}
	b, _ := read(strings.Fields(text))
	return b
}

// read is the block with which words begin, and what is behind it.
func read(words []string) (block.Block, []string) {
	w, words := words[0], words[1:]
	switch {
	case w == "-":
		return block.Block{Kind: block.Empty}, words
	case w == "*":
		return block.Block{Kind: block.Rules}, words
	case w[0] == 'g':
		return block.Block{Kind: block.Gate, Node: whole(w[1:])}, words
	case w != "(":
		return block.Block{Kind: block.Leaf, Node: whole(w)}, words
	}
	b := head(words[0])
	for words = words[1:]; words[0] != ")"; {
		if words[0] == "[" {
			b.Links = append(b.Links, block.Link{From: whole(words[1]), To: whole(words[2]), Flow: whole(words[3])})
			words = words[5:]
			continue
		}
		var kid block.Block
		kid, words = read(words)
		b.Kids = append(b.Kids, kid)
	}
	return b, words[1:]
}

// head is a block by its kind, its node and its arg, as kind:node/arg.
func head(w string) block.Block {
	w, arg, _ := strings.Cut(w, "/")
	name, node, _ := strings.Cut(w, ":")
	kinds := []string{block.Seq: "seq", block.Par: "par", block.Alt: "alt", block.Pick: "pick", block.Loop: "loop", block.Web: "web"}
	return block.Block{Kind: slices.Index(kinds, name), Node: whole(node), Arg: whole(arg)}
}
