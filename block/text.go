package block

import (
	"slices"
	"strconv"
)

// The place of each name is the kind's number; kinds without one are written otherwise.
var names = [Rules + 1]string{Seq: "seq", Par: "par", Alt: "alt", Pick: "pick", Loop: "loop", Web: "web"}

// writable tells whether a block can be written, its kids aside.
func writable(b Block) bool {
	if b.Kind < Empty || b.Kind > Rules || b.Node < 0 || b.Arg < 0 {
		return false
	}
	return !slices.ContainsFunc(b.Links, func(l Link) bool { return min(l.From, l.To, l.Flow) < -1 })
}

// write writes a block's text behind what is written already.
func write(to []byte, b Block) []byte {
	switch b.Kind {
	case Empty:
		return append(to, '-')
	case Rules:
		return append(to, '*')
	case Gate:
		return number(append(to, 'g'), b.Node)
	case Leaf:
		return number(to, b.Node)
	}
	to = append(append(to, '('), names[b.Kind]...)
	to = writeNode(to, b)
	for _, k := range b.Kids {
		to = write(append(to, ' '), k)
	}
	if b.Kind == Web {
		to = writeLinks(to, b.Links)
	}
	return append(to, ')')
}

// writeNode writes the node of those kinds with kids that have one.
func writeNode(to []byte, b Block) []byte {
	switch b.Kind {
	case Par, Alt, Pick:
		return number(append(to, ':'), b.Node)
	case Loop:
		to = number(append(to, ':'), b.Node)
		return number(append(to, '/'), b.Arg)
	}
	return to
}

func writeLinks(to []byte, links []Link) []byte {
	for _, l := range links {
		to = number(append(to, " ["...), l.From)
		to = number(append(to, ' '), l.To)
		to = number(append(to, ' '), l.Flow)
		to = append(to, ']')
	}
	return to
}

func number(to []byte, n int) []byte { return strconv.AppendInt(to, int64(n), 10) }
