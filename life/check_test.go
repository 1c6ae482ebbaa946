package life_test

import (
	"math"
	"reflect"
	"slices"
	"testing"

	"treenail/api"
	"treenail/bpel"
	"treenail/dead"
	"treenail/life"
	"treenail/token"
)

// wantWrong is that no call tells anything but an error.
func wantWrong(t *testing.T, a bpel.Act, s life.State, want api.Errno) {
	t.Helper()
	if err := life.Check(a, s); err != want {
		t.Errorf("Check of %s: %v; want %v", text(s), err, want)
	}
	if l := life.Moves(a, s); len(l) > 0 {
		t.Errorf("Moves of %s: %v", text(s), l)
	}
	for _, i := range []int{0, 1, -1, math.MaxInt} {
		wantNone(t, a, s, i, want)
	}
}

// 20.1, 20.2: a program that is none comes first, whatever the state and the move are.
func TestWrongProgram(t *testing.T) {
	wait := bpel.Act{Kind: bpel.Wait, Node: 1}
	for want, programs := range map[api.Errno][]bpel.Act{
		api.ErrForm: {{}, {Kind: 15}, {Kind: bpel.Wait, Node: -1}, {Kind: bpel.Web}, {Kind: bpel.Rules}, {Kind: bpel.On, Kids: []bpel.Act{wait}}, {Kind: bpel.Gate, A: 1}, {Kind: bpel.Sequence, Kids: []bpel.Act{wait}}},
		api.ErrSame: {{Kind: bpel.Sequence, Kids: []bpel.Act{wait, wait}}},
		api.ErrLong: {{Kind: bpel.Sequence, Kids: slices.Repeat([]bpel.Act{{Kind: bpel.Empty}}, bpel.Most)}},
	} {
		for _, a := range programs {
			if s, err := life.Start(a); s != (life.State{}) || err != want {
				t.Errorf("Start of %v: %s, %v; want %v", a, text(s), err, want)
			}
			for _, s := range []life.State{{}, in("a"), in("o"), {Mode: 9}, {Status: [bpel.Most]int{95: 1}}} {
				wantWrong(t, a, s, want)
			}
		}
	}
}

// 20.1: what is no state, at the edges of each of its parts.
func TestCheck(t *testing.T) {
	for _, c := range []struct {
		program     string
		items       int
		links, kids int
		flows       int
	}{
		{"<empty/>", 1, 0, 0, 0},
		{`<sequence><invoke node="1" var="0"/><wait node="2"/></sequence>`, 3, 0, 0, 0},
		{choices, 7, 0, 0, 0},
		{split, 7, 6, 4, 0},
		{choosing, 6, 8, 5, 0},
		{rules, 1, 0, 0, 4},
	} {
		a := read(t, c.program)
		within := func(place func(s *life.State) *int, least, most int) {
			t.Helper()
			for _, v := range []int{least, most, least - 1, most + 1, math.MinInt, math.MaxInt} {
				s, err := life.Start(a)
				if err != api.OK {
					t.Fatal(err)
				}
				if *place(&s) = v; v < least || v > most {
					wantWrong(t, a, s, api.ErrArg)
				} else if err := life.Check(a, s); err != api.OK {
					t.Errorf("%s: Check of %s: %v", c.program, text(s), err)
				}
			}
		}
		upto := func(i, count, most int) int {
			if i < count {
				return most
			}
			return 0
		}
		for i := range bpel.Most {
			within(func(s *life.State) *int { return &s.Status[i] }, 0, upto(i, c.items, life.Asks))
		}
		for i := range api.MaxFlows {
			within(func(s *life.State) *int { return &s.Web.Links[i] }, 0, upto(i, c.links, dead.Gone))
			within(func(s *life.State) *int { return &s.Tokens[i] }, 0, upto(i, c.flows, api.MaxHold))
		}
		for i := range 64 {
			within(func(s *life.State) *int { return &s.Web.Kids[i] }, 0, upto(i, c.kids, dead.Skipped))
		}
		for i := range api.Vars {
			within(func(s *life.State) *int { return &s.Vars[i] }, -api.MaxInt, api.MaxInt)
		}
		for i := range api.Msgs {
			within(func(s *life.State) *int { return &s.Queue[i] }, 0, api.MaxHold)
		}
		within(func(s *life.State) *int { return &s.Mode }, token.Running, token.Broken)
	}
}

// 20.1: as many activities as there may be.
func TestMost(t *testing.T) {
	a := bpel.Act{Kind: bpel.Flow, Kids: slices.Repeat([]bpel.Act{{Kind: bpel.Empty}}, bpel.Most-1)}
	s := life.State{}
	for i := range s.Status {
		s.Status[i] = life.Asks
	}
	if err := life.Check(a, s); err != api.OK {
		t.Error(err)
	}
	a.Kids = a.Kids[1:]
	wantWrong(t, a, s, api.ErrArg)
}

// R3, R6: what is handed in stays as it is, and the same call tells the same.
func TestMemory(t *testing.T) {
	for _, program := range []string{choices, split, choosing, rules, `<flow><invoke node="1" var="0"/><invoke node="2" var="0"/></flow>`} {
		a, was := read(t, program), read(t, program)
		s, _ := life.Start(a)
		s.Vars[1] = 1
		first := life.Moves(a, s)
		wanted := slices.Clone(first)
		clear(first[:cap(first)])
		second := life.Moves(a, s)
		if !slices.Equal(second, wanted) || len(second) == 0 {
			t.Errorf("%s: %v; want %v", program, second, wanted)
		}
		for i := range second {
			x, label, err := life.Do(a, s, i)
			if y, again, other := life.Do(a, s, i); x != y || label != again || err != other {
				t.Errorf("%s: %s, %s", program, text(x), text(y))
			}
		}
		if !reflect.DeepEqual(a, was) {
			t.Errorf("%v; it was %v", a, was)
		}
	}
}

// P3: calls end at anything.
func TestEnds(t *testing.T) {
	kids := make([]bpel.Act, 2)
	terms := make([]api.Term, 2)
	for i := range kids {
		kids[i] = bpel.Act{Kind: bpel.Flow, Kids: kids}
		terms[i] = api.Term{Op: api.OpAnd, Kids: terms}
	}
	empties := []bpel.Act{{Kind: bpel.Empty}, {Kind: bpel.Empty}}
	for want, programs := range map[api.Errno][]bpel.Act{
		api.ErrLong: {kids[0]},
		api.ErrForm: {{Kind: bpel.If, Conds: []api.Term{{}, terms[0]}, Kids: empties}, {Kind: bpel.Assign, Term: terms[0]}, {Kind: bpel.Loop, A: math.MaxInt, B: math.MinInt, Conds: make([]api.Term, 2), Kids: empties}},
	} {
		for _, a := range programs {
			if s, err := life.Start(a); s != (life.State{}) || err != want {
				t.Errorf("Start: %s, %v; want %v", text(s), err, want)
			}
			wantWrong(t, a, in("a"), want)
		}
	}
}
