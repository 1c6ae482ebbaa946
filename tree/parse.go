package tree

import (
	"treenail/api"
	"treenail/mark"
)

// stack has elements one behind the other: each that is open, and behind it its kids that are closed.
type stack []Elem

func (s *stack) push(more ...Elem) { *s = append(*s, more...) }

// takeOff takes off what lies from a place on, as a list with memory of its own.
func (s *stack) takeOff(place int) []Elem {
	if place == len(*s) {
		return nil
	}
	taken := make([]Elem, len(*s)-place)
	copy(taken, (*s)[place:])
	*s = (*s)[:place]
	return taken
}

// parser takes marks one by one; open has the places in elems of those that are open, the innermost last.
type parser struct {
	elems stack
	open  []int
}

// take takes a mark; it answers an error, if it makes clear that there is no element.
func (p *parser) take(m mark.Mark) api.Errno {
	switch m.Kind {
	case mark.Open:
		return p.begin(m)
	case mark.Close:
		return p.end(m)
	}
	return p.text(m)
}

func (p *parser) begin(m mark.Mark) api.Errno {
	if p.over() || p.inside() && p.innermost().Text != "" {
		return api.ErrForm
	}
	if len(p.open) == api.MaxDepth || p.inside() && p.kids() == api.MaxKids {
		return api.ErrLong
	}
	p.open = append(p.open, len(p.elems))
	p.elems.push(Elem{Name: m.Name, Attrs: m.Attrs})
	return api.OK
}

func (p *parser) end(m mark.Mark) api.Errno {
	if !p.inside() || p.innermost().Name != m.Name {
		return api.ErrForm
	}
	last := len(p.open) - 1
	kids := p.elems.takeOff(p.open[last] + 1)
	p.innermost().Kids = kids
	p.open = p.open[:last]
	return api.OK
}

func (p *parser) text(m mark.Mark) api.Errno {
	if !p.inside() || p.kids() > 0 {
		return api.ErrForm
	}
	p.innermost().Text = m.Text
	return api.OK
}

func (p *parser) inside() bool { return len(p.open) > 0 }

// over tells whether the whole element is there.
func (p *parser) over() bool { return !p.inside() && len(p.elems) > 0 }

func (p *parser) innermost() *Elem { return &p.elems[p.open[len(p.open)-1]] }

// kids is how many kids the innermost element has as yet.
func (p *parser) kids() int { return len(p.elems) - p.open[len(p.open)-1] - 1 }
