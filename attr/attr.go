// Package attr has an element's attributes: it puts numbers, terms and messages into some, one behind the other, and takes them off again.
package attr

import (
	"strconv"

	"treenail/api"
	"treenail/mark"
)

// message is the name of the attribute that a message has.
const message = "message"

// Writer puts attributes one behind the other.
type Writer struct{ list []mark.Attr }

// List is the attributes that were put; they are the caller's from now on.
func (w *Writer) List() []mark.Attr { return w.list }

// Text puts an attribute with a text.
func (w *Writer) Text(name, text string) {
	w.list = append(w.list, mark.Attr{Name: name, Value: text})
}

// Number puts an attribute with a number.
func (w *Writer) Number(name string, n int) { w.Text(name, strconv.Itoa(n)) }

// Term puts an attribute with a term that is right.
func (w *Writer) Term(name string, t api.Term) { w.Text(name, termText(t)) }

// Message puts an attribute with a message; none, if it is a timer.
func (w *Writer) Message(m int) {
	if m != api.Msgs {
		w.Number(message, m)
	}
}

// Reader takes attributes off, one behind the other, and keeps in mind whether one was wrong.
type Reader struct {
	left  []mark.Attr
	wrong bool
}

// NewReader is one of attributes, which it does not change.
func NewReader(list []mark.Attr) *Reader { return &Reader{left: list} }

// Over tells whether all attributes were taken off, and none was wrong.
func (r *Reader) Over() bool { return len(r.left) == 0 && !r.wrong }

// Refuse says that there is something wrong.
func (r *Reader) Refuse() { r.wrong = true }

// Next is the name of the next attribute, or no name.
func (r *Reader) Next() string {
	if len(r.left) == 0 {
		return ""
	}
	return r.left[0].Name
}

// Text takes off the next attribute, which must have this name, and answers its value.
func (r *Reader) Text(name string) string {
	if len(r.left) == 0 || r.left[0].Name != name {
		r.Refuse()
		return ""
	}
	value := r.left[0].Value
	r.left = r.left[1:]
	return value
}

// Number takes off a number.
func (r *Reader) Number(name string) int {
	value := r.Text(name)
	n, err := strconv.Atoi(value)
	// Signs and noughts ahead are seen by writing the number anew.
	if err != nil || n < 0 || strconv.Itoa(n) != value {
		r.Refuse()
		return 0
	}
	return n
}

// Term takes off a term.
func (r *Reader) Term(name string) api.Term {
	t, ok := termOf(r.Text(name))
	if !ok {
		r.Refuse()
	}
	return t
}

// Message takes off a message. A timer has no attribute, so that no attribute may tell it.
func (r *Reader) Message() int {
	if r.Next() != message {
		return api.Msgs
	}
	m := r.Number(message)
	if m == api.Msgs {
		r.Refuse()
	}
	return m
}
