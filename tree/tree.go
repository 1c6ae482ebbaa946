// Package tree is layer 2: it has elements with elements in them, as texts.
package tree

import (
	"treenail/api"
	"treenail/mark"
)

// Elem is an element.
type Elem struct {
	Name  string
	Attrs []mark.Attr
	Kids  []Elem
	Text  string
}

// How far Count and Depth look. Lists of kids may lie in themselves, and the calls must end all the same.
const (
	mostLevels = 1000
	mostElems  = 1<<31 - 1
)

// Check tells whether it is one.
func Check(e Elem) api.Errno {
	_, err := Write(e)
	return err
}

// Write is its text.
func Write(e Elem) (string, api.Errno) {
	if tooLarge(e, api.MaxDepth) {
		return "", api.ErrLong
	}
	var w writer
	if err := w.elem(e); err != api.OK {
		return "", err
	}
	if w.full() {
		return "", api.ErrFull
	}
	return w.text.String(), api.OK
}

// Parse is the element of a text; or, beside an error, the place at which it is clear that there is none.
func Parse(s string) (Elem, int, api.Errno) {
	marks, at, err := mark.Read(s)
	if err != api.OK {
		return Elem{}, at, err
	}
	var p parser
	for _, m := range marks {
		if err := p.take(m); err != api.OK {
			return Elem{}, m.At, err
		}
	}
	if !p.over() {
		return Elem{}, len(s), api.ErrForm
	}
	return p.elems[0], 0, api.OK
}

// Get is an attribute's value.
func Get(e Elem, name string) (string, bool) {
	for _, a := range e.Attrs {
		if a.Name == name {
			return a.Value, true
		}
	}
	return "", false
}

// Count is how many elements it is.
func Count(e Elem) int { return count(e.Kids, mostLevels, mostElems) }

// Depth is how deep they lie.
func Depth(e Elem) int { return depth(e, mostLevels) }
