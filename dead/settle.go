package dead

import "treenail/bpel"

// The A of the gates that are not like all others: one that joins all its ins, and one that chooses.
const (
	joinsAll  = 2
	splitsOne = 3
)

// settle decides of each kid that waits for no link any more, always of the least one. What is decided of one may close the ins of a lesser one, so that it looks from the first one on again.
func settle(w bpel.Act, s State) State {
again:
	for {
		for kid := range w.Kids {
			if to := decided(w, s, kid); to != s {
				s = to
				continue again
			}
		}
		return s
	}
}

// decided is the state in which a kid lives, or is skipped; the same state, if it does not wait, or waits for a link.
func decided(w bpel.Act, s State, kid int) State {
	if s.Kids[kid] != Waits {
		return s
	}
	all, some := true, false
	for i, l := range w.Links {
		if l.To != kid {
			continue
		}
		if s.Links[i] == Open {
			return s
		}
		all = all && s.Links[i] == Taken
		some = some || s.Links[i] == Taken
	}
	isGate, does := w.Kids[kid].Kind == bpel.Gate, w.Kids[kid].A
	switch {
	case !some || isGate && does == joinsAll && !all:
		return ended(w, s, kid, Skipped)
	case isGate && does != splitsOne:
		return ended(w, s, kid, Done)
	}
	s.Kids[kid] = Runs
	return s
}

// ended is the state in which a kid is Done, and its outs Taken; or Skipped, and its outs Gone.
func ended(w bpel.Act, s State, kid, how int) State {
	s.Kids[kid] = how
	if how == Done {
		return left(w, s, kid, Taken)
	}
	return left(w, s, kid, Gone)
}

// left is the state in which all links from a kid, or from outside, are Taken, or Gone.
func left(w bpel.Act, s State, from, how int) State {
	for i, l := range w.Links {
		if l.From == from {
			s.Links[i] = how
		}
	}
	return s
}
