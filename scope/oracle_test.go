package scope_test

import (
	"math/rand"
	"slices"
	"strconv"
	"testing"

	"treenail/api"
	"treenail/scope"
)

// sight is a run as the chapter's words have it: of each scope its state, and when it was done.
type sight struct {
	plan         []scope.Scope
	states, when []int
	time         int
}

func look(l []scope.Scope) *sight {
	s := &sight{plan: l, states: make([]int, len(l)), when: make([]int, len(l))}
	s.states[0] = scope.In
	return s
}

func (s *sight) part(k, of int) bool {
	for k = s.plan[k].Parent; k >= 0; k = s.plan[k].Parent {
		if k == of {
			return true
		}
	}
	return false
}

// kids are the scopes in a state whose Parent is i, those with the greater mark first.
func (s *sight) kids(i, state int, mark func(k int) int) []int {
	var l []int
	for k, c := range s.plan {
		if c.Parent == i && s.states[k] == state {
			l = append(l, k)
		}
	}
	slices.SortFunc(l, func(a, b int) int { return mark(b) - mark(a) })
	return l
}

func (s *sight) step(what byte, i int) ([]scope.Action, api.Errno) {
	if i < 0 || i >= len(s.plan) {
		return nil, api.ErrArg
	}
	self := func(k int) int { return k }
	switch {
	case what == 'e' && s.states[i] == scope.Idle && s.states[s.plan[i].Parent] == scope.In:
		s.states[i] = scope.In
	case what == 'l' && s.states[i] == scope.In && len(s.kids(i, scope.In, self)) == 0:
		s.time++
		s.states[i], s.when[i] = scope.Done, s.time
	case what == 'f' && s.states[i] == scope.In:
		return s.fault(i), api.OK
	default:
		return nil, api.ErrState
	}
	return nil, api.OK
}

// due is something that is still to be done to a scope: f a fault, x to end it, u to undo it, or a state that it is in then.
type due struct {
	what  byte
	i     int
	state int
	act   int
}

// fault takes what is due from the front of a list, and puts what that comes to there instead.
func (s *sight) fault(i int) []scope.Action {
	var acts []scope.Action
	list := []due{{what: 'f', i: i}}
	for len(list) > 0 {
		d := list[0]
		next := s.comesTo(d)
		if d.what == 's' {
			s.states[d.i] = d.state
			if d.act > 0 {
				acts = append(acts, scope.Action{What: d.act, Scope: d.i})
			}
		}
		list = append(next, list[1:]...)
	}
	return acts
}

func (s *sight) comesTo(d due) []due {
	var l []due
	self := func(k int) int { return k }
	done := func(k int) int { return s.when[k] }
	switch d.what {
	case 'f':
		for _, k := range s.kids(d.i, scope.In, self) {
			l = append(l, due{what: 'x', i: k})
		}
		for _, k := range s.kids(d.i, scope.Done, done) {
			l = append(l, due{what: 'u', i: k})
		}
		if s.plan[d.i].Catch {
			return append(l, due{what: 's', i: d.i, state: scope.Caught, act: scope.Catch})
		}
		l = append(l, due{what: 's', i: d.i, state: scope.Failed, act: scope.Fail})
		if d.i > 0 {
			l = append(l, due{what: 'f', i: s.plan[d.i].Parent})
		}
	case 'x':
		for k := len(s.plan) - 1; k >= 0; k-- {
			if s.part(k, d.i) && s.states[k] == scope.In {
				l = append(l, due{what: 's', i: k, state: scope.Ended, act: scope.End})
			}
		}
		l = append(l, due{what: 's', i: d.i, state: scope.Ended, act: scope.End})
	case 'u':
		if s.plan[d.i].Undo {
			return []due{{what: 's', i: d.i, state: scope.Undone, act: scope.Undo}}
		}
		for _, k := range s.kids(d.i, scope.Done, done) {
			l = append(l, due{what: 'u', i: k})
		}
		l = append(l, due{what: 's', i: d.i, state: scope.Undone})
	}
	return l
}

func (s *sight) order() []int {
	var l []int
	for at := 1; at <= s.time; at++ {
		for k := range s.plan {
			if s.states[k] == scope.Done && s.when[k] == at {
				l = append(l, k)
			}
		}
	}
	return l
}

// differs tells what a run and its sight tell otherwise.
func differs(r *scope.Run, s *sight) string {
	for i := range s.plan {
		if r.State(i) != s.states[i] {
			return "state"
		}
	}
	if !slices.Equal(r.Order(), s.order()) {
		return "order"
	}
	return ""
}

// anyPlan is a plan of so many scopes.
func anyPlan(r *rand.Rand, count int) []scope.Scope {
	l := make([]scope.Scope, count)
	for i := range l {
		l[i] = scope.Scope{Parent: i - 1 - r.Intn(min(i, 1+r.Intn(4))+1), Catch: r.Intn(5) == 0, Undo: r.Intn(2) == 0}
		if i > 0 {
			l[i].Parent = max(l[i].Parent, 0)
		}
	}
	l[0].Parent = -1
	return l
}

// follows holds what a fault did against 22.3.
func follows(t *testing.T, l []scope.Scope, was []int, r *scope.Run, in int, acts []scope.Action, when []int) {
	t.Helper()
	s := look(l)
	top := in
	for r.State(top) == scope.Failed && top > 0 {
		top = l[top].Parent
	}
	for k := range l {
		if s.part(k, top) && r.State(k) == scope.In {
			t.Errorf("%v: %d is in %d, and In", l, k, top)
		}
		if was[k] > scope.Done && r.State(k) != was[k] || was[k] == scope.Idle && r.State(k) != scope.Idle {
			t.Errorf("%v: %d was %d, and is %d", l, k, was[k], r.State(k))
		}
		if r.State(k) == scope.Undone && was[k] != scope.Done && was[k] != scope.Undone {
			t.Errorf("%v: %d is Undone, and was %d", l, k, was[k])
		}
	}
	for i, a := range acts {
		for _, b := range acts[:i] {
			if a.Scope == b.Scope {
				t.Errorf("%v: twice %d: %s", l, a.Scope, told(acts))
			}
			if a.What == scope.Undo && b.What == scope.Undo && l[a.Scope].Parent == l[b.Scope].Parent && when[a.Scope] > when[b.Scope] {
				t.Errorf("%v: %d ahead of %d, which was done later: %s", l, b.Scope, a.Scope, told(acts))
			}
		}
	}
}

// tryOut does any steps, so many, of a run and of its sight; it tells how many actions of each kind there were.
func tryOut(t *testing.T, r *rand.Rand, l []scope.Scope, steps int) (many [5]int, longest int) {
	t.Helper()
	run, err := scope.New(l)
	if err != api.OK {
		t.Fatalf("New(%v): %v", l, err)
	}
	s := look(l)
	for at := range steps {
		what, i := "eeeeelllllf"[r.Intn(11)], r.Intn(len(l)+2)-1
		if len(l) > 8 && at < steps/2 { // so that a fault finds many of them In
			what = 'e'
		}
		if from := r.Intn(len(l)); what == 'f' && i > 0 {
			i = from + slices.Index(s.states[from:], scope.In)
		}
		if i == 0 && r.Intn(10) > 0 { // else most runs are over soon
			continue
		}
		was := slices.Clone(s.states)
		want, wantErr := s.step(what, i)
		got, err := do(run, string(what)+strconv.Itoa(i))
		if err != wantErr || !slices.Equal(got, want) {
			t.Fatalf("%v: %c%d: %s, %v, want %s, %v", l, what, i, told(got), err, told(want), wantErr)
		}
		if d := differs(run, s); d != "" {
			t.Fatalf("%v: %c%d: %s: %s", l, what, i, d, shown(run, len(l)))
		}
		if what == 'f' && err == api.OK {
			follows(t, l, was, run, i, got, s.when)
			longest = max(longest, len(got))
		}
		for _, a := range got {
			many[a.What]++
		}
	}
	return many, longest
}

// 22.1, 22.2, 22.3: any steps of any plans.
func TestAny(t *testing.T) {
	var many [5]int
	longest := 0
	for seed := range 10000 {
		r := rand.New(rand.NewSource(int64(seed)))
		count := 1 + r.Intn(8)
		if seed%5 == 0 {
			count = 9 + r.Intn(24)
		}
		m, long := tryOut(t, r, anyPlan(r, count), 12*count)
		for what := range m {
			many[what] += m[what]
		}
		longest = max(longest, long)
	}
	if slices.Min(many[1:]) < 1000 || longest < 15 {
		t.Errorf("%v, %d", many, longest)
	}
}

// 22.2: all plans of four scopes, with all that can be done to them in six steps and a fault in the root.
func TestAll(t *testing.T) {
	for code := range 6 * 256 {
		l := []scope.Scope{{Parent: -1}, {Parent: 0}, {Parent: code % 2}, {Parent: code % 6 / 2}}
		for i := range l {
			l[i].Catch, l[i].Undo = code/6>>i&1 == 1, code/6>>(i+4)&1 == 1
		}
		through(t, l, "", 6)
	}
}

// through does, behind the steps, each further one that is no error of the sight, up to so many.
func through(t *testing.T, l []scope.Scope, steps string, left int) {
	t.Helper()
	run, s := again(l, steps)
	want, wantErr := s.step('f', 0)
	if got, err := run.Fault(0); err != wantErr || !slices.Equal(got, want) || differs(run, s) != "" {
		t.Fatalf("%v, %s: %s, %v, want %s, %v", l, steps, told(got), err, told(want), wantErr)
	}
	if left == 0 {
		return
	}
	for i := 1; i < len(l); i++ {
		for _, what := range []byte("elf") {
			if _, next := again(l, steps); what == 'f' && left > 2 || !fits(next, what, i) {
				continue
			}
			through(t, l, steps+string(what)+strconv.Itoa(i), left-1)
		}
	}
}

func fits(s *sight, what byte, i int) bool {
	_, err := s.step(what, i)
	return err == api.OK
}

// again is a run, and its sight, behind steps of two letters each.
func again(l []scope.Scope, steps string) (*scope.Run, *sight) {
	run, _ := scope.New(l)
	s := look(l)
	for k := 0; k < len(steps); k += 2 {
		do(run, steps[k:k+2])
		s.step(steps[k], int(steps[k+1]-'0'))
	}
	return run, s
}
