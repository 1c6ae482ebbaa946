package engine_test

import (
	"math/rand"
	"slices"
	"testing"

	"treenail/api"
	"treenail/bpel"
	"treenail/engine"
	"treenail/life"
	"treenail/plan"
	"treenail/sample"
	"treenail/shape"
	"treenail/trail"
)

// actor is an instance without an office and a clock: for how long it was quiet, and whether it can ring at all.
type actor struct {
	state life.State
	quiet int
	rings bool
}

// stage is an engine as the chapter's words have it.
type stage struct {
	a      bpel.Act
	actors map[int]*actor
	time   int
}

// options are the free moves of an actor, each as its place among all moves.
func (x *actor) options(a bpel.Act) []int {
	var l []int
	for i, m := range life.Moves(a, x.state) {
		if m.Item >= 0 && !(m.Label.Kind == api.Rang && (!x.rings || x.quiet < 2)) {
			l = append(l, i)
		}
	}
	return l
}

func (g *stage) act(x *actor, place int) api.Label {
	to, label, _ := life.Do(g.a, x.state, place)
	x.state = to
	if label.Kind != api.Arrived {
		x.quiet, x.rings = 0, g.time+2 <= end
	}
	return label
}

func (g *stage) step(s engine.Step) engine.Entry {
	x, is := g.actors[s.Key]
	wrong := func(err api.Errno) engine.Entry { return engine.Entry{Key: s.Key, Err: err} }
	switch s.What {
	case 1:
		switch {
		case s.Key < 0 || s.Key > 999:
			return wrong(api.ErrArg)
		case is:
			return wrong(api.ErrSame)
		case len(g.actors) == 8:
			return wrong(api.ErrFull)
		}
		first, _ := life.Start(g.a)
		g.actors[s.Key] = &actor{state: first, rings: g.time+2 <= end}
		return wrong(api.OK)
	case 2:
		return g.arrival(s, x, is)
	case 3:
		if s.N < 0 {
			return wrong(api.ErrArg)
		}
		if !is {
			return wrong(api.ErrNone)
		}
		l := x.options(g.a)
		if len(l) == 0 {
			return wrong(api.ErrState)
		}
		return engine.Entry{Key: s.Key, Label: g.act(x, l[s.N%len(l)])}
	case 4:
		if s.N < 0 || s.N > end {
			return wrong(api.ErrArg)
		}
		if g.time+s.N > end {
			return wrong(api.ErrOver)
		}
		g.time += s.N
		for _, y := range g.actors {
			y.quiet += s.N
		}
		return wrong(api.OK)
	case 5:
		if !is {
			return wrong(api.ErrNone)
		}
		delete(g.actors, s.Key)
		return wrong(api.OK)
	}
	return wrong(api.ErrArg)
}

func (g *stage) arrival(s engine.Step, x *actor, is bool) engine.Entry {
	wrong := func(err api.Errno) engine.Entry { return engine.Entry{Key: s.Key, Err: err} }
	switch {
	case s.N < 0 || s.N > 3:
		return wrong(api.ErrArg)
	case !is:
		return wrong(api.ErrNone)
	case x.state.Queue[s.N] == 3:
		return wrong(api.ErrFull)
	}
	for i, m := range life.Moves(g.a, x.state) {
		if m.Item < 0 && m.Arg == s.N {
			return engine.Entry{Key: s.Key, Label: g.act(x, i)}
		}
	}
	return wrong(api.ErrState)
}

// anyLean is what the steps of a script mostly do: of each a digit, the more often the more there are.
func anyLean(r *rand.Rand) string {
	return []string{"1112223333333344", "111122223333333333445", "1111111345", "12222222234"}[r.Intn(4)]
}

// anyStep is a step of a script, mostly of one of these keys.
func anyStep(r *rand.Rand, lean string, keys []int) engine.Step {
	s := engine.Step{What: int(lean[r.Intn(len(lean))] - '0'), Key: keys[r.Intn(len(keys))], N: r.Intn(4)}
	if r.Intn(40) == 0 {
		s.Key = []int{-1, 1000, r.Intn(1000)}[r.Intn(3)]
	}
	if r.Intn(40) == 0 {
		s.N = []int{-1, 4, end, end + 1, r.Intn(1000)}[r.Intn(5)]
		// A tick to the end of time would be the last one.
		if s.What == engine.Tick && s.N == end {
			s.N = end - 1
		}
	}
	if r.Intn(60) == 0 {
		s.What = []int{0, 6, -1}[r.Intn(3)]
	}
	return s
}

// anyKeys are so many keys.
func anyKeys(r *rand.Rand, count int) []int {
	return r.Perm(1000)[:count]
}

// 24.1, 24.4: any scripts of any programs, held against the chapter's words, step by step.
func TestScripts(t *testing.T) {
	r := rand.New(rand.NewSource(24))
	came := map[string]int{}
	kinds := map[int]int{}
	for range 250 {
		a := sample.Program(r.Intn)
		g, err := engine.New(a)
		if err != api.OK {
			t.Fatal(err)
		}
		words := &stage{a: a, actors: map[int]*actor{}}
		keys := anyKeys(r, 1+r.Intn(12))
		var log []engine.Entry
		lean := anyLean(r)
		for i := range 80 {
			s := anyStep(r, lean, keys)
			// Some scripts come to the end of time.
			if i == 5 && r.Intn(4) == 0 {
				s = engine.Step{What: engine.Tick, N: end - r.Intn(20)}
			}
			e, want := g.Step(s), words.step(s)
			if e != want {
				t.Fatalf("%v: %v, want %v", s, e, want)
			}
			log = append(log, want)
			came[string(rune('0'+s.What))+" "+e.Err.Error()]++
			kinds[e.Label.Kind]++
			wantActors(t, g, words, append(keys, s.Key))
		}
		if l := g.Log(); !slices.Equal(l, log) {
			t.Fatalf("Log: %v, want %v", l, log)
		}
	}
	for _, what := range []string{"1 error 0", "1 error 1", "1 error 5", "1 error 8", "2 error 0", "2 error 1", "2 error 5", "2 error 6", "2 error 7", "3 error 0", "3 error 1", "3 error 6", "3 error 7",
		"4 error 0", "4 error 1", "4 error 40", "5 error 0", "5 error 6", "0 error 1", "6 error 1"} {
		if came[what] < 10 {
			t.Errorf("%s came only %d times", what, came[what])
		}
	}
	for kind := range 8 {
		if kinds[kind] < 60 {
			t.Errorf("labels of kind %d: %d times", kind, kinds[kind])
		}
	}
}

// wantActors holds what can be told of instances against the chapter's words.
func wantActors(t *testing.T, g *engine.Engine, words *stage, keys []int) {
	t.Helper()
	for _, key := range keys {
		var state life.State
		var free []life.Move
		x, is := words.actors[key]
		if is {
			state = x.state
			moves := life.Moves(words.a, state)
			for _, i := range x.options(words.a) {
				free = append(free, moves[i])
			}
		}
		if s, ok := g.State(key); s != state || ok != is {
			t.Fatalf("State(%d): %v, %v; want %v, %v", key, s, ok, state, is)
		}
		if w, ok := g.Waiting(key); w != state.Queue || ok != is {
			t.Fatalf("Waiting(%d): %v, %v; want %v, %v", key, w, ok, state.Queue, is)
		}
		if l := g.Free(key); !slices.Equal(l, free) {
			t.Fatalf("Free(%d): %v, want %v", key, l, free)
		}
	}
}

// sames tells whether the same can be told of an instance.
func sames(g, h *engine.Engine, key int) bool {
	s, is := g.State(key)
	z, ok := h.State(key)
	w, has := g.Waiting(key)
	v, had := h.Waiting(key)
	return s == z && is == ok && w == v && has == had && slices.Equal(g.Free(key), h.Free(key))
}

// 24.2: an instance does the same without all that is done to others but ticks.
func TestApart(t *testing.T) {
	r := rand.New(rand.NewSource(25))
	moved := 0
	for range 120 {
		a := sample.Program(r.Intn)
		// There is room for all keys, so that none can't be opened.
		keys := anyKeys(r, 8)
		whole, _ := engine.New(a)
		alone := map[int]*engine.Engine{}
		for _, key := range keys {
			alone[key], _ = engine.New(a)
		}
		lean := anyLean(r)
		for range 150 {
			s := anyStep(r, lean, keys)
			if !slices.Contains(keys, s.Key) {
				continue
			}
			e := whole.Step(s)
			for key, g := range alone {
				if key != s.Key && s.What != engine.Tick {
					continue
				}
				if x := g.Step(s); x != e {
					t.Fatalf("%v: %v, alone %v", s, e, x)
				}
			}
			if e.Label != (api.Label{}) {
				moved++
			}
		}
		for key, g := range alone {
			if !sames(whole, g, key) {
				t.Fatalf("%d: %s, alone %s", key, sight(whole, key), sight(g, key))
			}
		}
	}
	if moved < 1500 {
		t.Errorf("%d moves", moved)
	}
}

// 24.5: a script without the steps that are errors does the same.
func TestWithoutErrors(t *testing.T) {
	r := rand.New(rand.NewSource(26))
	errors := 0
	for range 150 {
		a := sample.Program(r.Intn)
		keys := anyKeys(r, 1+r.Intn(10))
		whole, _ := engine.New(a)
		right, _ := engine.New(a)
		lean := anyLean(r)
		for range 100 {
			s := anyStep(r, lean, keys)
			e := whole.Step(s)
			if e.Err != api.OK {
				errors++
				if e.Label != (api.Label{}) || e.Key != s.Key {
					t.Fatalf("%v: %v", s, e)
				}
				continue
			}
			if x := right.Step(s); x != e {
				t.Fatalf("%v: %v, without errors %v", s, e, x)
			}
		}
		for _, key := range keys {
			if !sames(whole, right, key) {
				t.Fatalf("%d: %s, without errors %s", key, sight(whole, key), sight(right, key))
			}
		}
	}
	if errors < 2000 {
		t.Errorf("%d errors", errors)
	}
}

// 24.3, P4: each entry without an error is a move of layer 20, from the state there was to that which there is, or no move at all.
func TestMoves(t *testing.T) {
	r := rand.New(rand.NewSource(27))
	silent := 0
	for range 150 {
		a := sample.Program(r.Intn)
		keys := anyKeys(r, 4)
		g, _ := engine.New(a)
		lean := anyLean(r)
		for range 80 {
			s := anyStep(r, lean, keys)
			was, ok := g.State(s.Key)
			e := g.Step(s)
			is, _ := g.State(s.Key)
			if e.Err != api.OK || s.What != engine.Send && s.What != engine.Pick {
				if ok && was != is && s.What != engine.Close {
					t.Fatalf("%v: %v: %v, behind it %v", s, e, was, is)
				}
				continue
			}
			if e.Label == (api.Label{}) {
				silent++
			}
			found := false
			for i := range life.Moves(a, was) {
				to, label, _ := life.Do(a, was, i)
				found = found || to == is && label == e.Label
			}
			if !found {
				t.Fatalf("%v: %v: no move leads from %v to %v", s, e, was, is)
			}
		}
	}
	if silent < 50 {
		t.Errorf("%d silent moves", silent)
	}
}

// compiled is the program of a process, and its plan; 0, if it is too large for one.
func compiled(n api.Net) (bpel.Act, int) {
	b, kind, _ := plan.Of(n)
	a, err := shape.Of(n, b)
	if err != api.OK {
		return bpel.Act{}, 0
	}
	return a, kind
}

// P1: the labels that are seen of an instance are accepted by the process.
func TestAccepted(t *testing.T) {
	r := rand.New(rand.NewSource(28))
	plans, shown := map[int]int{}, 0
	for range 200 {
		n := []func(func(int) int) api.Net{sample.Net, sample.Crossed, sample.Knit, sample.Woven}[r.Intn(4)](r.Intn)
		a, kind := compiled(n)
		if kind == 0 {
			continue
		}
		keys := anyKeys(r, 3)
		g, _ := engine.New(a)
		seen := map[int][]api.Label{}
		lean := anyLean(r)
		for range 60 {
			s := anyStep(r, lean, keys)
			e := g.Step(s)
			if e.Err == api.OK && (s.What == engine.Open || s.What == engine.Close) {
				seen[s.Key] = nil
			}
			if e.Label != (api.Label{}) {
				seen[s.Key] = append(seen[s.Key], e.Label)
			}
		}
		for key, l := range seen {
			many, err := trail.Accepts(n, l)
			if err != api.OK {
				continue
			}
			plans[kind]++
			shown += len(l)
			if many != len(l) {
				t.Fatalf("%d: %v: %d are accepted", key, l, many)
			}
		}
	}
	for kind := 1; kind <= 3; kind++ {
		if plans[kind] < 60 {
			t.Errorf("plan %d: %d times", kind, plans[kind])
		}
	}
	if shown < 500 {
		t.Errorf("%d labels", shown)
	}
}
