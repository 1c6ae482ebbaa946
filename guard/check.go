package guard

import (
	"treenail/api"
	"treenail/bpel"
)

// anyCode is the Code that every errno meets.
const anyCode = 0

// These are all Codes that there are.
var codes = [3]int{anyCode, int(api.ErrOver), int(api.ErrZero)}

// programs are all that are in one: Main first, then those of its catches.
func programs(p Program) []bpel.Act {
	l := make([]bpel.Act, 0, 1+len(p.Catch))
	l = append(l, p.Main)
	for _, h := range p.Catch {
		l = append(l, h.Act)
	}
	return l
}

// through shows programs one behind the other, till it is told false. It tells whether it came through all of them.
func through(to func(bpel.Act) bool, all ...bpel.Act) bool {
	for _, a := range all {
		if !to(a) {
			return false
		}
	}
	return true
}

// wrong is the error of the first program that is not right.
func wrong(all ...bpel.Act) api.Errno {
	err := api.OK
	through(func(a bpel.Act) bool {
		err = bpel.Check(a)
		return err == api.OK
	}, all...)
	return err
}

// isCode tells whether a number is a Code.
func isCode(code int) bool {
	for _, c := range codes {
		if c == code {
			return true
		}
	}
	return false
}

func codesAre(l []Handler) bool {
	for _, h := range l {
		if !isCode(h.Code) {
			return false
		}
	}
	return true
}

func codeTwice(l []Handler) bool {
	for i, h := range l {
		for _, other := range l[:i] {
			if other.Code == h.Code {
				return true
			}
		}
	}
	return false
}

// nodeTwice tells whether a node stands in two of some right programs.
func nodeTwice(all ...bpel.Act) bool {
	var taken [api.MaxNodes]bool
	return !through(func(a bpel.Act) bool {
		for _, i := range nodes(a) {
			if taken[i] {
				return false
			}
			taken[i] = true
		}
		return true
	}, all...)
}

// nodes are those that stand in an activity of a right program; in Rules all of the process stand.
func nodes(a bpel.Act) []int {
	var l []int
	switch a.Kind {
	case bpel.Empty, bpel.Sequence, bpel.Flow, bpel.Web:
	case bpel.Rules:
		for i := range a.Net.Nodes {
			l = append(l, i)
		}
	default:
		l = append(l, a.Node)
	}
	for _, k := range a.Kids {
		l = append(l, nodes(k)...)
	}
	return l
}
