package engine

import (
	"slices"

	"treenail/api"
	"treenail/life"
)

// do does a step: the label of the move that was done, and the error, behind which nothing has changed.
func (g *Engine) do(s Step) (api.Label, api.Errno) {
	switch s.What {
	case Open:
		return api.Label{}, g.begin(s.Key)
	case Send:
		return g.send(s.Key, s.N)
	case Pick:
		return g.pick(s.Key, s.N)
	case Tick:
		return api.Label{}, g.Tick(s.N)
	case Close:
		return api.Label{}, g.end(s.Key)
	}
	return api.Label{}, api.ErrArg
}

// begin begins an instance.
func (g *Engine) begin(key int) api.Errno {
	if err := g.Open(key); err != api.OK {
		return err
	}
	// New took only a program that starts.
	g.states[key], _ = life.Start(g.program)
	g.wind(key)
	return api.OK
}

// send has a message arrive.
func (g *Engine) send(key, m int) (api.Label, api.Errno) {
	if m < 0 || m >= api.Msgs {
		return api.Label{}, api.ErrArg
	}
	s, ok := g.states[key]
	if !ok {
		return api.Label{}, api.ErrNone
	}
	if s.Queue[m] >= api.MaxHold {
		return api.Label{}, api.ErrFull
	}
	arrives := api.Label{Kind: api.Arrived, Arg: m}
	i := slices.IndexFunc(life.Moves(g.program, s), func(x life.Move) bool { return x.Label == arrives })
	if i < 0 {
		return api.Label{}, api.ErrState
	}
	g.Put(key, m)
	return g.move(key, i), api.OK
}

// pick does a free move.
func (g *Engine) pick(key, n int) (api.Label, api.Errno) {
	if n < 0 {
		return api.Label{}, api.ErrArg
	}
	was, ok := g.states[key]
	if !ok {
		return api.Label{}, api.ErrNone
	}
	l := g.free(key, life.Moves(g.program, was))
	if len(l) == 0 {
		return api.Label{}, api.ErrState
	}
	label := g.move(key, l[n%len(l)])
	g.takeGone(key, was.Queue)
	g.wind(key)
	return label, api.OK
}

// end has an instance be gone, with its box and its alarm.
func (g *Engine) end(key int) api.Errno {
	if _, ok := g.states[key]; !ok {
		return api.ErrNone
	}
	delete(g.states, key)
	g.Close(key)
	g.Drop(key)
	return api.OK
}

// move does the i'th of an instance's moves; there must be one.
func (g *Engine) move(key, i int) api.Label {
	s, label, _ := life.Do(g.program, g.states[key], i)
	g.states[key] = s
	return label
}

// takeGone takes from an instance's box what waited in its state and does not any more.
func (g *Engine) takeGone(key int, was [api.Msgs]int) {
	for m, now := range g.states[key].Queue {
		if now < was[m] {
			g.Take(key, m)
		}
	}
}

// wind sets an instance's alarm anew. Near the end of time it has none then, for the old one is gone.
func (g *Engine) wind(key int) {
	g.Drop(key)
	g.Set(key, Delay)
}

// free are the places of those moves of an instance that are free.
func (g *Engine) free(key int, moves []life.Move) []int {
	left, ok := g.Left(key)
	due := ok && left == 0
	var l []int
	for i, m := range moves {
		if m.Label.Kind != api.Arrived && (m.Label.Kind != api.Rang || due) {
			l = append(l, i)
		}
	}
	return l
}
