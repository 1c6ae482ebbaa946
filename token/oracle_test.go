package token_test

import (
	"math/rand"
	"reflect"
	"slices"
	"testing"

	"treenail/api"
	"treenail/eval"
	"treenail/net"
	"treenail/sample"
	"treenail/token"
)

// option is what a node may do: which flows it takes a token from, which it puts one on, what it asks besides, and what it changes besides.
type option struct {
	move       token.Move
	take, give []int
	asks       func(s token.State) bool
	change     func(s *token.State)
}

// options are all that the nodes of a process might do, in their order; those of choices and of assignments hang on the state.
func options(n api.Net, s token.State) []option {
	var l []option
	ins, outs := make(map[int][]int), make(map[int][]int)
	for f, x := range n.Flows {
		ins[x.To], outs[x.From] = append(ins[x.To], f), append(outs[x.From], f)
	}
	add := func(o option) { l = append(l, o) }
	received := func(o option, catch int) option {
		o.give = outs[catch]
		m := n.Nodes[catch].A
		if m == 4 {
			o.move.Label = api.Label{Kind: api.Rang, Node: catch}
			return o
		}
		o.move.Label = api.Label{Kind: api.Got, Node: catch}
		o.asks = func(s token.State) bool { return s.Queue[m] >= 1 }
		o.change = func(s *token.State) { s.Queue[m] -= 1 }
		return o
	}
	for i, x := range n.Nodes {
		o := option{move: token.Move{Node: i}, take: ins[i], give: outs[i]}
		fault := func(e api.Errno) {
			o.move.Label = api.Label{Kind: api.Faulted, Node: i, Arg: int(e)}
			o.give = nil
			tokens := s.Tokens
			o.change = func(s *token.State) { s.Tokens, s.Mode = tokens, 2 }
			add(o)
		}
		switch {
		case x.Kind == api.Task:
			for _, r := range []int{0, 1} {
				o.move.Arg, o.move.Label = r, api.Label{Kind: api.Did, Node: i, Arg: r}
				o.change = func(s *token.State) { s.Vars[x.A] = r }
				add(o)
			}
		case x.Kind == api.Assign:
			v, e := eval.Number(x.Term, s.Vars)
			if e != 0 {
				fault(e)
				break
			}
			o.move.Label = api.Label{Kind: api.Set, Node: i}
			o.change = func(s *token.State) { s.Vars[x.A] = v }
			add(o)
		case x.Kind == api.Xor && len(ins[i]) == 1:
			goes, e := way(n, outs[i], s.Vars)
			if e != 0 {
				fault(e)
				break
			}
			o.move.Arg, o.give = goes, []int{goes}
			add(o)
		case x.Kind == api.Xor:
			for _, f := range ins[i] {
				o.move.Arg, o.take = f, []int{f}
				add(o)
			}
		case x.Kind == api.And:
			add(o)
		case x.Kind == api.Event:
			for _, f := range outs[i] {
				o.move.Arg = f
				add(received(o, n.Flows[f].To))
			}
		case x.Kind == api.Catch:
			add(received(o, i))
		case x.Kind == api.End:
			if token.Tokens(s) == 1 {
				o.move.Label = api.Label{Kind: api.Finished}
				o.change = func(s *token.State) { s.Mode = 1 }
			}
			add(o)
		}
	}
	for m := range 4 {
		waits := func(x api.Node) bool { return x.Kind == api.Catch && x.A == m }
		if slices.ContainsFunc(n.Nodes, waits) {
			add(option{
				move:   token.Move{Node: -1, Arg: m, Label: api.Label{Kind: api.Arrived, Arg: m}},
				asks:   func(s token.State) bool { return s.Queue[m] <= 2 },
				change: func(s *token.State) { s.Queue[m] += 1 },
			})
		}
	}
	return l
}

// way is where a choice goes, from the last of its outs to the first: what stands ahead counts.
func way(n api.Net, outs []int, vars [api.Vars]int) (int, api.Errno) {
	goes, fault := -1, api.OK
	for _, f := range outs {
		if n.Flows[f].Else {
			goes = f
		}
	}
	for _, f := range slices.Backward(outs) {
		if n.Flows[f].Else {
			continue
		}
		is, e := eval.Truth(n.Flows[f].Cond, vars)
		if e != api.OK {
			goes, fault = -1, e
		} else if is {
			goes, fault = f, api.OK
		}
	}
	return goes, fault
}

type next struct {
	move token.Move
	to   token.State
}

// nexts are the moves, and what they lead to.
func nexts(n api.Net, s token.State) []next {
	var l []next
	if s.Mode != 0 {
		return nil
	}
	for _, o := range options(n, s) {
		to, ok := s, o.asks == nil || o.asks(s)
		for _, f := range o.take {
			ok = ok && s.Tokens[f] >= 1
			to.Tokens[f] -= 1
		}
		for _, f := range o.give {
			ok = ok && s.Tokens[f] < 3
			to.Tokens[f] += 1
		}
		if o.change != nil {
			o.change(&to)
		}
		if ok {
			l = append(l, next{o.move, to})
		}
	}
	return l
}

// wantNexts holds the moves of a state against them, tells how many there are, and asks whether all that they lead to are states (7.2).
func wantNexts(t *testing.T, n api.Net, s token.State) []next {
	t.Helper()
	want := nexts(n, s)
	got := token.Moves(n, s)
	if len(got) != len(want) {
		t.Fatalf("%v of %v: %v, wanted %v", s, n, got, want)
	}
	for i, w := range want {
		to, label, e := token.Do(n, s, i)
		if got[i] != w.move || to != w.to || label != w.move.Label || e != api.OK {
			t.Fatalf("%v of %v: %d: %v: %v, %v, %v, wanted %v", s, n, i, got[i], to, label, e, w)
		}
		if e := token.Check(n, to); e != api.OK {
			t.Fatalf("%v of %v: %d leads to %v: %v", s, n, i, to, e)
		}
	}
	if to, label, e := token.Do(n, s, len(want)); to != (token.State{}) || label != (api.Label{}) || e != api.ErrNone {
		t.Fatalf("%v of %v: %d: %v, %v, %v", s, n, len(want), to, label, e)
	}
	return want
}

func process(r *rand.Rand) api.Net {
	if r.Intn(2) == 0 {
		return sample.Net(r.Intn)
	}
	return sample.Crossed(r.Intn)
}

// anyState is a state of the process, whether a run comes to it or not.
func anyState(n api.Net, r *rand.Rand) token.State {
	var s token.State
	for f := range n.Flows {
		if r.Intn(3) > 0 {
			s.Tokens[f] = r.Intn(api.MaxHold + 1)
		}
	}
	values := []int{0, 0, 1, 1, 2, 3, -1, api.MaxInt, -api.MaxInt, api.MaxInt / 2}
	for v := range s.Vars {
		s.Vars[v] = values[r.Intn(len(values))]
	}
	for m := range s.Queue {
		s.Queue[m] = r.Intn(api.MaxHold + 1)
	}
	if r.Intn(20) == 0 {
		s.Mode = r.Intn(3)
	}
	return s
}

// 7.1, 7.2: any states of any processes.
func TestAnyStates(t *testing.T) {
	r := rand.New(rand.NewSource(7))
	var kinds [api.Finished + 1]int
	for range 3000 {
		n := process(r)
		for range 5 {
			s := anyState(n, r)
			if e := token.Check(n, s); e != api.OK {
				t.Fatalf("%v: %v", s, e)
			}
			for _, x := range wantNexts(t, n, s) {
				kinds[x.move.Label.Kind]++
			}
		}
	}
	for k, times := range kinds {
		if k != api.Finished && times < 500 {
			t.Errorf("label %d: %d times", k, times)
		}
	}
}

// 7.1, 7.2: runs from the start on, to the end if they come to it.
func TestRuns(t *testing.T) {
	r := rand.New(rand.NewSource(8))
	var kinds [api.Finished + 1]int
	for range 1500 {
		n := process(r)
		s, e := token.Start(n)
		if out := net.Outs(n, net.Start(n)); e != api.OK || s != state(out[0], 1) {
			t.Fatalf("%v: %v, %v", n, s, e)
		}
		for range 60 {
			l := wantNexts(t, n, s)
			if len(l) == 0 {
				break
			}
			x := l[r.Intn(len(l))]
			kinds[x.move.Label.Kind]++
			s = x.to
		}
	}
	for k, times := range kinds {
		if times < 100 {
			t.Errorf("label %d: %d times", k, times)
		}
	}
}

// 7.3: without And there is one token, till the process is Ended.
func TestOneToken(t *testing.T) {
	r := rand.New(rand.NewSource(9))
	var modes [token.Broken + 1]int
	for range 1000 {
		n := process(r)
		for i, x := range n.Nodes {
			if x.Kind == api.And {
				n.Nodes[i].Kind = api.Xor
			}
		}
		n = sample.Choices(n, r.Intn)
		s, e := token.Start(n)
		if e != api.OK {
			t.Fatalf("%v: %v", n, e)
		}
		for range 60 {
			want := 1
			if s.Mode == token.Ended {
				want = 0
			}
			if token.Tokens(s) != want {
				t.Fatalf("%v: %v", n, s)
			}
			l := token.Moves(n, s)
			if len(l) == 0 {
				break
			}
			s, _, _ = token.Do(n, s, r.Intn(len(l)))
		}
		modes[s.Mode]++
	}
	for mode, times := range modes {
		if times < 30 {
			t.Errorf("mode %d: %d times", mode, times)
		}
	}
}

// P3: processes of any numbers, states of any numbers: every call ends, and a wrong process is told.
func TestAnyNumbers(t *testing.T) {
	r := rand.New(rand.NewSource(10))
	number := func() int {
		l := []int{-1 << 63, -1, 0, 1, 2, 3, 4, 5, 39, 40, 41, 1<<63 - 1}
		return l[r.Intn(len(l))]
	}
	loop := make([]api.Term, 2)
	loop[0], loop[1] = api.Term{Op: api.OpAdd, Kids: loop}, api.Term{Op: api.OpEq, Kids: loop}
	terms := append([]api.Term{{}, sample.Number(r.Intn, 3), sample.Truth(r.Intn, 3)}, loop...)
	for range 8000 {
		n := process(r)
		n.Nodes, n.Flows = slices.Clone(n.Nodes), slices.Clone(n.Flows)
		f, x := &n.Flows[r.Intn(len(n.Flows))], &n.Nodes[r.Intn(len(n.Nodes))]
		switch r.Intn(5) {
		case 0:
			f.From = number()
		case 1:
			f.To = number()
		case 2:
			x.Kind, x.Term = number(), terms[r.Intn(len(terms))]
		case 3:
			x.A, f.Cond = number(), terms[r.Intn(len(terms))]
		}
		s := anyState(n, r)
		s.Tokens[r.Intn(len(s.Tokens))] = number()
		s.Vars[r.Intn(len(s.Vars))] = number()
		s.Queue[r.Intn(len(s.Queue))] = number()
		rule, _ := net.Check(n)
		if e := token.Check(n, s); (e == api.ErrForm) != (rule != 0) {
			t.Fatalf("%v: %v", n, e)
		}
		if rule == 0 && token.Check(n, s) == api.OK {
			wantNexts(t, n, s)
			continue
		}
		to, label, e := token.Do(n, s, 0)
		if len(token.Moves(n, s)) > 0 || to != (token.State{}) || label != (api.Label{}) || e != token.Check(n, s) {
			t.Fatalf("%v of %v: %v, %v, %v", s, n, to, label, e)
		}
	}
}

// R6: the same call tells the same, and leaves the process as it was.
func TestSame(t *testing.T) {
	r := rand.New(rand.NewSource(11))
	for range 300 {
		n := process(r)
		was := net.Copy(n)
		s := anyState(n, r)
		l := token.Moves(n, s)
		for i := range l {
			to, label, e := token.Do(n, s, i)
			if again, same, f := token.Do(n, s, i); again != to || same != label || e != f {
				t.Fatalf("%v: %d", s, i)
			}
		}
		if !slices.Equal(l, token.Moves(n, s)) || !reflect.DeepEqual(n, was) {
			t.Fatalf("%v: %v, %v", s, l, token.Moves(n, s))
		}
	}
}
