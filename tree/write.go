package tree

import (
	"strings"

	"treenail/api"
	"treenail/mark"
)

// writer gathers an element's text, no more of it than shows that it is too long.
type writer struct{ text strings.Builder }

func (w *writer) full() bool { return w.text.Len() > api.MaxText }

func (w *writer) put(parts ...string) {
	for _, p := range parts {
		if !w.full() {
			w.text.WriteString(p)
		}
	}
}

// elem goes through all of e, even when the text is full: a wrong form counts ahead of that.
func (w *writer) elem(e Elem) api.Errno {
	open, err := mark.Write(mark.Mark{Kind: mark.Open, Name: e.Name, Attrs: e.Attrs})
	if err != api.OK {
		return err
	}
	if len(e.Kids) == 0 && e.Text == "" {
		w.put(strings.TrimSuffix(open, ">"), "/>")
		return api.OK
	}
	return w.inside(e, open)
}

func (w *writer) inside(e Elem, open string) api.Errno {
	if len(e.Kids) > 0 && e.Text != "" {
		return api.ErrForm
	}
	text, err := mark.Escape(e.Text)
	if err != api.OK {
		return err
	}
	w.put(open, text)
	for _, k := range e.Kids {
		if err := w.elem(k); err != api.OK {
			return err
		}
	}
	w.put("</", e.Name, ">")
	return api.OK
}
