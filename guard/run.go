package guard

import (
	"treenail/api"
	"treenail/bpel"
	"treenail/life"
	"treenail/token"
)

// running is the program of a state's phase.
func running(p Program, s State) bpel.Act {
	if s.Phase == 0 {
		return p.Main
	}
	return p.Catch[s.Phase-1].Act
}

// moves are what may happen next, of a right program in a state of it.
func moves(p Program, s State) []Move {
	if s.Life.Mode != token.Running {
		return nil
	}
	return append(own(p, s), arrivals(p, s)...)
}

// own are the moves of the phase's program, but arrivals. They keep their places: in that program's list arrivals stand last.
func own(p Program, s State) []Move {
	var l []Move
	for _, m := range life.Moves(running(p, s), s.Life) {
		if m.Label.Kind != api.Arrived {
			l = append(l, Move(m))
		}
	}
	return l
}

// arrivals are those of the messages that any of the programs awaits, whichever runs.
func arrivals(p Program, s State) []Move {
	var l []Move
	for m := range api.Msgs {
		if awaits(m, programs(p)...) && s.Life.Queue[m] < api.MaxHold {
			l = append(l, Move{Item: -1, Arg: m, Label: api.Label{Kind: api.Arrived, Arg: m}})
		}
	}
	return l
}

// awaits tells whether one of some programs awaits a message.
func awaits(m int, all ...bpel.Act) bool {
	return !through(func(a bpel.Act) bool { return !bpel.Awaits(a, m) }, all...)
}

// do is the state that a move leads to, which is the i'th one.
func do(p Program, s State, i int, m Move) State {
	if m.Label.Kind == api.Arrived {
		s.Life.Queue[m.Arg]++
		return s
	}
	if m.Label.Kind == api.Faulted && s.Phase == 0 {
		if at := Which(p, m.Label.Arg); at >= 0 {
			return caught(p, s, at)
		}
	}
	s.Life, _, _ = life.Do(running(p, s), s.Life, i)
	return s
}

// caught is the state behind a fault that meets the catch at a place.
func caught(p Program, s State, at int) State {
	to, _ := life.Start(p.Catch[at].Act)
	to.Vars, to.Queue = s.Life.Vars, s.Life.Queue
	return State{Phase: at + 1, Life: to}
}
