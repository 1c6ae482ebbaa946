package life_test

import (
	"math/rand"
	"slices"
	"testing"

	"treenail/api"
	"treenail/bpel"
	"treenail/life"
	"treenail/plan"
	"treenail/sample"
	"treenail/seen"
	"treenail/shape"
	"treenail/token"
	"treenail/trail"
)

// moves is how a program's states go on.
func moves(a bpel.Act) seen.Game[life.State] {
	return seen.Game[life.State]{
		Labels: func(s life.State) []api.Label {
			var l []api.Label
			for _, m := range life.Moves(a, s) {
				l = append(l, m.Label)
			}
			return l
		},
		Do: func(s life.State, i int) life.State {
			to, _, _ := life.Do(a, s, i)
			return to
		},
	}
}

// compiled is the program of a process, and its plan; 0, if it is too large for one.
func compiled(n api.Net) (bpel.Act, int) {
	b, kind, _ := plan.Of(n)
	a, err := shape.Of(n, b)
	if err != api.OK {
		return bpel.Act{}, 0
	}
	return a, kind
}

// P1: what can be seen of a process's program is what can be seen of the process, behind whatever was seen.
func TestSameAsProcess(t *testing.T) {
	r := rand.New(rand.NewSource(1))
	plans, faults, ends := map[int]int{}, 0, 0
	for range 600 {
		n := []func(func(int) int) api.Net{sample.Net, sample.Crossed, sample.Knit, sample.Woven}[r.Intn(4)](r.Intn)
		a, kind := compiled(n)
		if kind == 0 {
			continue
		}
		plans[kind]++
		game := moves(a)
		first, _ := life.Start(a)
		ours, full := seen.Close(game, []life.State{first}, 300)
		theirs, err := trail.Begin(n)
		var way []api.Label
		for range 25 {
			if full != api.OK || err != api.OK || len(theirs) > 300 {
				break
			}
			got, want := seen.Labels(game, ours), trail.Labels(n, theirs)
			if !slices.Equal(got, want) {
				t.Fatalf("behind %v: %v; of the process %v", way, got, want)
			}
			if len(want) == 0 {
				break
			}
			// Arrivals make clouds no smaller, and there are often some.
			own := slices.DeleteFunc(slices.Clone(want), func(x api.Label) bool { return x.Kind == api.Arrived })
			if len(own) == 0 || r.Intn(4) == 0 {
				own = want
			}
			x := own[r.Intn(len(own))]
			way = append(way, x)
			ours, full = seen.After(game, ours, x, 300)
			theirs, err = trail.After(n, theirs, x)
			switch x.Kind {
			case api.Faulted:
				faults++
			case api.Finished:
				ends++
			}
		}
	}
	for kind := 1; kind <= 3; kind++ {
		if plans[kind] < 60 {
			t.Errorf("plan %d: %d times", kind, plans[kind])
		}
	}
	if faults < 30 || ends < 100 {
		t.Errorf("%d faults, %d ends", faults, ends)
	}
}

// P2: each run of a process has one of its program with the same labels, and no more moves.
func TestNoLonger(t *testing.T) {
	r := rand.New(rand.NewSource(2))
	runs := 0
	for range 200 {
		n := []func(func(int) int) api.Net{sample.Net, sample.Crossed, sample.Woven}[r.Intn(3)](r.Intn)
		a, kind := compiled(n)
		if kind == 0 {
			continue
		}
		labels, steps := processRun(n, r, 40)
		least, found := fewest(a, labels, steps)
		if !found {
			continue
		}
		runs++
		if least > steps {
			t.Fatalf("%v: %d moves; the process has %d", labels, least, steps)
		}
	}
	if runs < 150 {
		t.Errorf("%d runs", runs)
	}
}

// processRun is a run of a process of at most so many moves: its labels, but Silent, and how many moves there were.
func processRun(n api.Net, r *rand.Rand, most int) ([]api.Label, int) {
	s, _ := token.Start(n)
	var labels []api.Label
	for steps := range most {
		l := token.Moves(n, s)
		if len(l) == 0 {
			return labels, steps
		}
		to, label, _ := token.Do(n, s, r.Intn(len(l)))
		s = to
		if label.Kind != api.Silent {
			labels = append(labels, label)
		}
	}
	return labels, most
}

// fewest is with how few moves a program shows labels; more than so many are as good as none. False, if too many states would have to be looked at.
func fewest(a bpel.Act, labels []api.Label, most int) (int, bool) {
	type place struct {
		s     life.State
		shown int
	}
	first, _ := life.Start(a)
	now, looked := map[place]int{{first, 0}: 0}, 0
	for steps := range most + 1 {
		next := map[place]int{}
		for p := range now {
			if p.shown == len(labels) {
				return steps, true
			}
			if looked++; looked > 3000 {
				return 0, false
			}
			for i, m := range life.Moves(a, p.s) {
				to, _, _ := life.Do(a, p.s, i)
				if m.Label.Kind == api.Silent {
					next[place{to, p.shown}] = 0
				} else if m.Label == labels[p.shown] {
					next[place{to, p.shown + 1}] = 0
				}
			}
		}
		now = next
	}
	return most + 1, true
}
