package desk_test

import (
	"math/rand"
	"slices"
	"testing"

	"treenail/api"
	"treenail/bpel"
	"treenail/chain"
	"treenail/desk"
	"treenail/engine"
	"treenail/hold"
	"treenail/life"
	"treenail/page"
	"treenail/sample"
	"treenail/token"
	"treenail/trail"
)

// process is any right process.
func process(r *rand.Rand) api.Net {
	kinds := []func(func(int) int) api.Net{sample.Net, sample.Woven, sample.Crossed, sample.Knit}
	n := kinds[r.Intn(len(kinds))](r.Intn)
	if r.Intn(3) == 0 {
		return sample.Free(n)
	}
	return n
}

// anyStep is a step of a script, mostly of one of these keys.
func anyStep(r *rand.Rand, keys []int) engine.Step {
	lean := []int{1, 1, 2, 2, 2, 3, 3, 3, 3, 3, 3, 3, 3, 4, 4, 5}
	s := engine.Step{What: lean[r.Intn(len(lean))], Key: keys[r.Intn(len(keys))], N: r.Intn(4)}
	// What is closed shows nothing any more.
	if s.What == engine.Close && r.Intn(3) > 0 {
		s.What = engine.Pick
	}
	switch r.Intn(50) {
	case 0:
		s.Key = r.Intn(1100) - 50
	case 1:
		s.N = r.Intn(9) - 3
	case 2:
		s.What = r.Intn(9) - 1
	}
	return s
}

// record is a step and its entry.
type record struct {
	step  engine.Step
	entry engine.Entry
}

// shown is what was seen of an instance, read from the last step of a script on, back to the one that opened it.
func shown(l []record, key int) ([]api.Label, bool) {
	var labels []api.Label
	for _, x := range slices.Backward(l) {
		if x.step.Key != key || x.entry.Err != api.OK {
			continue
		}
		if x.step.What == engine.Open || x.step.What == engine.Close {
			slices.Reverse(labels)
			return labels, x.step.What == engine.Open
		}
		if x.entry.Label != (api.Label{}) {
			labels = append(labels, x.entry.Label)
		}
	}
	return nil, false
}

// 28.1 to 28.3, P1: any scripts: a desk does what an engine of its program does, and what is seen of an instance is accepted.
func TestScripts(t *testing.T) {
	r := rand.New(rand.NewSource(28))
	plans, labels, full := map[int]int{}, 0, 0
	for range 200 {
		s := written(t, process(r))
		text, _ := chain.Compile(s)
		a, _, err := page.Read(text)
		if err != api.OK {
			continue
		}
		d := deployed(t, s)
		g, _ := engine.New(a)
		n, _ := chain.Net(s)
		keys := r.Perm(1000)[:1+r.Intn(4)]
		var script []engine.Step
		var past []record
		for range 70 {
			x := anyStep(r, keys)
			e, want := d.Do(x), g.Step(x)
			if e != want {
				t.Fatalf("%s: %v: %v; want %v", s, x, e, want)
			}
			script, past = append(script, x), append(past, record{x, e})
		}
		plans[d.Kind()]++
		if d.Text() != text || d.Kind() != chain.Kind(s) {
			t.Fatalf("%s: %s, %d", s, d.Text(), d.Kind())
		}
		for _, key := range append(keys, script[9].Key, 1000, -1) {
			l, ok := d.Seen(key)
			want, is := shown(past, key)
			state, has := d.State(key)
			other, had := g.State(key)
			if !is {
				want = nil
			}
			if !slices.Equal(l, want) || ok != is || state != other || has != is || had != is {
				t.Fatalf("%s: %v: Seen(%d): %v, %v; want %v, %v", s, script, key, l, ok, want, is)
			}
			_, great := trail.Accepts(n, l)
			switch holds, err := d.Holds(key); {
			case !is:
				if holds || err != api.ErrNone {
					t.Fatalf("%s: Holds(%d): %v, %v", s, key, holds, err)
				}
			case great != api.OK:
				full++
				if holds || err != great {
					t.Fatalf("%s: Holds(%d): %v, %v; want %v", s, key, holds, err, great)
				}
			default:
				labels += len(l)
				if !holds || err != api.OK {
					t.Fatalf("%s: %v: Holds(%d): %v, %v; seen were %v", s, script, key, holds, err, l)
				}
			}
		}
		if l, bad := desk.Run(s, script); !slices.EqualFunc(l, past, func(e engine.Entry, x record) bool { return e == x.entry }) || len(bad) != 0 {
			t.Fatalf("%s: Run %v: %v, %v", s, script, l, bad)
		}
	}
	if plans[1] < 40 || plans[2] < 20 || plans[3] < 40 || labels < 1000 {
		t.Errorf("plans %v; %d labels, %d times too much", plans, labels, full)
	}
}

// done is a desk behind a script.
func done(t *testing.T, s string, script ...engine.Step) *desk.Desk {
	t.Helper()
	d := deployed(t, s)
	for _, x := range script {
		d.Do(x)
	}
	return d
}

// 28.4: whatever an instance may do, some step lets it do, behind ticks.
func TestWhole(t *testing.T) {
	r := rand.New(rand.NewSource(29))
	kinds := map[int]int{}
	for range 600 {
		s := written(t, process(r))
		text, _ := chain.Compile(s)
		a, _, err := page.Read(text)
		if err != api.OK {
			continue
		}
		keys := []int{r.Intn(1000), 5}
		var script []engine.Step
		for range r.Intn(40) {
			script = append(script, anyStep(r, keys))
		}
		// If there is no such instance, there is one then.
		script = append(script, engine.Step{What: engine.Open, Key: keys[0]})
		was, _ := done(t, s, script...).State(keys[0])
		moves := life.Moves(a, was)
		for i, m := range moves {
			want, label, _ := life.Do(a, was, i)
			kinds[label.Kind]++
			found := false
			for k := range max(len(moves), api.Msgs) {
				for _, what := range []int{engine.Send, engine.Pick} {
					d := done(t, s, append(slices.Clone(script), engine.Step{What: engine.Tick, N: engine.Delay})...)
					e := d.Do(engine.Step{What: what, Key: keys[0], N: k})
					now, _ := d.State(keys[0])
					found = found || e.Err == api.OK && e.Label == label && now == want
				}
			}
			if !found {
				t.Fatalf("%s, %v: no step does %v", s, script, m)
			}
		}
	}
	for kind := range 8 {
		if kinds[kind] < 10 {
			t.Errorf("labels of kind %d: %d times", kind, kinds[kind])
		}
	}
}

// place is a state of a run, behind so many labels.
type place struct {
	state life.State
	seen  int
}

// way is the moves, as their places, of a run of a program that shows labels; false, if it is known that none from here does.
func way(a bpel.Act, at place, l []api.Label, known map[place]struct{}) ([]int, bool) {
	if at.seen == len(l) {
		return nil, true
	}
	if _, ok := known[at]; ok {
		return nil, false
	}
	known[at] = struct{}{}
	for i, m := range life.Moves(a, at.state) {
		to, _, _ := life.Do(a, at.state, i)
		next := place{to, at.seen}
		if m.Label == l[at.seen] {
			next.seen++
		} else if m.Label != (api.Label{}) {
			continue
		}
		if rest, ok := way(a, next, l, known); ok {
			return append([]int{i}, rest...), true
		}
	}
	return nil, false
}

// 28.4, P1: whatever can be seen of the process alone, some script lets be seen of an instance.
func TestSeenOfProcess(t *testing.T) {
	r := rand.New(rand.NewSource(30))
	ends, longest := 0, 0
	for range 250 {
		n := process(r)
		s := written(t, n)
		text, _ := chain.Compile(s)
		a, _, err := page.Read(text)
		if err != api.OK {
			continue
		}
		if c, err := hold.Begin(a); err != api.OK || len(c) > 100 {
			continue
		}
		var l []api.Label
		game, _ := token.Start(n)
		for range r.Intn(60) {
			moves := token.Moves(n, game)
			if len(moves) == 0 {
				break
			}
			to, x, _ := token.Do(n, game, r.Intn(len(moves)))
			game = to
			if x != (api.Label{}) {
				l = append(l, x)
			}
		}
		state, _ := life.Start(a)
		run, ok := way(a, place{state: state}, l, map[place]struct{}{})
		if !ok {
			t.Fatalf("%s: no run shows %v", s, l)
		}
		d := deployed(t, s)
		do(t, d, "open 7")
		for _, i := range run {
			follow(t, d, a, i)
		}
		wantSeen(t, d, 7, l...)
		longest = max(longest, len(l))
		if game.Mode == token.Ended {
			ends++
		}
	}
	if ends < 40 || longest < 15 {
		t.Errorf("%d to the end, at most %d labels", ends, longest)
	}
}

// follow has the instance 7 do the i'th move of its state, behind ticks.
func follow(t *testing.T, d *desk.Desk, a bpel.Act, i int) {
	t.Helper()
	state, _ := d.State(7)
	moves := life.Moves(a, state)
	x := engine.Step{What: engine.Pick, Key: 7}
	if moves[i].Label.Kind == api.Arrived {
		x.What, x.N = engine.Send, moves[i].Arg
	} else {
		d.Do(engine.Step{What: engine.Tick, N: engine.Delay})
		for _, m := range moves[:i] {
			if m.Label.Kind != api.Arrived {
				x.N++
			}
		}
	}
	if e := d.Do(x); e.Err != api.OK || e.Label != moves[i].Label {
		t.Fatalf("%v: %v; want %v", x, e, moves[i].Label)
	}
}
