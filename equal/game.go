package equal

import (
	"slices"

	"treenail/api"
	"treenail/bpel"
	"treenail/hold"
	"treenail/life"
	"treenail/token"
	"treenail/trail"
)

// game is a process and a program that are held against one another.
type game struct {
	process api.Net
	program bpel.Act
}

// pair is where both may be behind what was seen.
type pair struct {
	process []token.State
	program []life.State
}

// check is the error of a process, or of a program, that is not right. It is looked for ahead of all else, while clouds that are too great are told last.
func (g game) check() api.Errno {
	if _, err := token.Start(g.process); err != api.OK {
		return err
	}
	return bpel.Check(g.program)
}

func (g game) begin() (pair, api.Errno) {
	process, err := trail.Begin(g.process)
	if err != api.OK {
		return pair{}, err
	}
	program, err := hold.Begin(g.program)
	return pair{process, program}, err
}

func (g game) after(p pair, x api.Label) (pair, api.Errno) {
	process, err := trail.After(g.process, p.process, x)
	if err != api.OK {
		return pair{}, err
	}
	program, err := hold.After(g.program, p.program, x)
	return pair{process, program}, err
}

// labels are those of the process, rising, and whether the program has the same.
func (g game) labels(p pair) ([]api.Label, bool) {
	l := trail.Labels(g.process, p.process)
	return l, slices.Equal(l, hold.Labels(g.program, p.program))
}

// walk goes behind labels that are picked. It keeps no pair but the last one: picks may be many.
func (g game) walk(picks []int) ([]api.Label, bool, api.Errno) {
	p, err := g.begin()
	if err != api.OK {
		return nil, false, err
	}
	var gone []api.Label
	labels, same := g.labels(p)
	for _, pick := range picks {
		if !same || len(labels) == 0 {
			break
		}
		x := labels[pick%len(labels)]
		if p, err = g.after(p, x); err != api.OK {
			return nil, false, err
		}
		gone = append(gone, x)
		labels, same = g.labels(p)
	}
	return gone, same, api.OK
}
