package mark

import "strings"

// reader goes through a text from its first byte to its last; at is the place of the next one.
type reader struct {
	s  string
	at int
}

// next takes the next mark, an element that is closed at once as two of them; it answers none, if there is no mark.
func (r *reader) next() []Mark {
	at := r.at
	if r.skip("</") {
		return r.closed(at)
	}
	if r.skip("<") {
		return r.opened(at)
	}
	text, ok := r.text('<')
	if !ok {
		return nil
	}
	return []Mark{{Kind: Text, At: at, Text: text}}
}

func (r *reader) closed(at int) []Mark {
	name, ok := r.name()
	if !ok || !r.skip(">") {
		return nil
	}
	return []Mark{{Kind: Close, At: at, Name: name}}
}

func (r *reader) opened(at int) []Mark {
	name, ok := r.name()
	if !ok {
		return nil
	}
	attrs, ok := r.attrs()
	if !ok {
		return nil
	}
	open := Mark{Kind: Open, At: at, Name: name, Attrs: attrs}
	if r.skip(">") {
		return []Mark{open}
	}
	if r.skip("/>") {
		return []Mark{open, {Kind: Close, At: at, Name: name}}
	}
	return nil
}

func (r *reader) attrs() ([]Attr, bool) {
	var attrs []Attr
	for r.skip(" ") {
		name, ok := r.name()
		if !ok || !r.skip("=\"") {
			return nil, false
		}
		value, ok := r.text('"')
		if !ok || !r.skip("\"") {
			return nil, false
		}
		attrs = append(attrs, Attr{Name: name, Value: value})
	}
	return attrs, unlike(attrs)
}

// skip goes past a word, if that is what comes next.
func (r *reader) skip(word string) bool {
	if !strings.HasPrefix(r.s[r.at:], word) {
		return false
	}
	r.at += len(word)
	return true
}

func (r *reader) name() (string, bool) {
	first := r.at
	for r.at < len(r.s) && ofName(rune(r.s[r.at])) {
		r.at++
	}
	name := r.s[first:r.at]
	return name, Name(name)
}

// text takes a text up to the next byte stop, or to the end, and tells it as it is meant.
func (r *reader) text(stop byte) (string, bool) {
	var out strings.Builder
	for r.at < len(r.s) && r.s[r.at] != stop {
		b, n := meant(r.s[r.at:])
		if n == 0 {
			return "", false
		}
		out.WriteByte(b)
		r.at += n
	}
	return out.String(), true
}
