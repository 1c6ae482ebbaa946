package equal

import (
	"slices"

	"treenail/api"
)

// way is labels one behind the other, and to where they lead.
type way struct {
	labels []api.Label
	end    *spot
}

// spot is a pair, what can be seen next, and to where each of these labels leads, as soon as it was asked for.
type spot struct {
	pair   pair
	labels []api.Label
	same   bool
	behind []*spot
}

// ground is all spots that were found: most ways lead to a spot to which another one has led, and clouds are great.
type ground struct {
	game
	spots []*spot
}

// ways are all ways of at most so many labels, by their lengths, then by their labels, as those of each spot rise.
func (g game) ways(depth int) ([]way, api.Errno) {
	r := &ground{game: g}
	p, err := g.begin()
	if err != api.OK {
		return nil, err
	}
	l := []way{{end: r.spot(p)}}
	for i := 0; i < len(l); i++ {
		w := l[i]
		if len(w.labels) == depth || !w.end.same {
			continue
		}
		if len(l)+len(w.end.labels) > Most {
			return nil, api.ErrFull
		}
		if err := r.goOn(w.end); err != api.OK {
			return nil, err
		}
		for k, x := range w.end.labels {
			l = append(l, way{append(slices.Clone(w.labels), x), w.end.behind[k]})
		}
	}
	return l, api.OK
}

// spot is the spot of a pair.
func (r *ground) spot(p pair) *spot {
	for _, s := range r.spots {
		if slices.Equal(s.pair.process, p.process) && slices.Equal(s.pair.program, p.program) {
			return s
		}
	}
	s := &spot{pair: p}
	s.labels, s.same = r.labels(p)
	r.spots = append(r.spots, s)
	return s
}

// goOn finds the spots behind one.
func (r *ground) goOn(s *spot) api.Errno {
	if s.behind != nil {
		return api.OK
	}
	var behind []*spot
	for _, x := range s.labels {
		p, err := r.after(s.pair, x)
		if err != api.OK {
			return err
		}
		behind = append(behind, r.spot(p))
	}
	s.behind = behind
	return api.OK
}
