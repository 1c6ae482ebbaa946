// Package mark is layer 1: it takes a text apart into marks (opened and closed elements, and texts between them), and writes marks as texts.
package mark

import (
	"strings"

	"treenail/api"
)

// Kinds of marks.
const (
	Open  = 1
	Close = 2
	Text  = 3
)

// Attr is an attribute.
type Attr struct{ Name, Value string }

// Mark is an opened or closed element, or a text.
type Mark struct {
	Kind, At int
	Name     string
	Attrs    []Attr
	Text     string
}

// Read are the marks of a text; or, beside ErrForm, the place of the first one that is none.
func Read(s string) ([]Mark, int, api.Errno) {
	if len(s) > api.MaxText {
		return nil, 0, api.ErrLong
	}
	var marks []Mark
	r := reader{s: s}
	for r.at < len(s) {
		first := r.at
		found := r.next()
		if len(found) == 0 {
			return nil, first, api.ErrForm
		}
		marks = append(marks, found...)
	}
	return marks, 0, api.OK
}

// Escape is a text with escapes.
func Escape(s string) (string, api.Errno) {
	var out strings.Builder
	for _, r := range s {
		if !plain(r) {
			return "", api.ErrForm
		}
		out.WriteString(written(r))
	}
	return out.String(), api.OK
}

// Name tells whether it is a name.
func Name(s string) bool {
	if len(s) == 0 || len(s) > api.MaxName {
		return false
	}
	for i, r := range s {
		if !ofName(r) || i == 0 && !letter(r) {
			return false
		}
	}
	return true
}

// Write are a mark's bytes.
func Write(m Mark) (string, api.Errno) {
	switch m.Kind {
	case Open:
		return writeOpen(m)
	case Close:
		return writeClose(m)
	case Text:
		return writeText(m)
	}
	return "", api.ErrArg
}
