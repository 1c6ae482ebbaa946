package hold_test

import (
	"math/rand"
	"slices"
	"testing"

	"treenail/api"
	"treenail/bpel"
	"treenail/hold"
	"treenail/life"
	"treenail/plan"
	"treenail/sample"
	"treenail/shape"
)

// program is a right program: any one, or that of a process.
func program(r *rand.Rand) bpel.Act {
	kinds := []func(func(int) int) api.Net{nil, nil, sample.Net, sample.Woven, sample.Crossed, sample.Knit}
	process := kinds[r.Intn(len(kinds))]
	if process == nil {
		return sample.Program(r.Intn)
	}
	n := process(r.Intn)
	b, _, _ := plan.Of(n)
	a, _ := shape.Of(n, b)
	return a
}

// step is a state and the label by which it is come to.
type step struct {
	label api.Label
	to    life.State
}

// steps are what the moves of a state lead to that are, or are not, Silent.
func steps(a bpel.Act, s life.State, silent bool) []step {
	var l []step
	for i, m := range life.Moves(a, s) {
		if to, _, _ := life.Do(a, s, i); (m.Label == api.Label{}) == silent {
			l = append(l, step{m.Label, to})
		}
	}
	return l
}

// closed is the closed list, by looking through all of it; nil, if it is too great.
func closed(a bpel.Act, from []life.State) []life.State {
	var l []life.State
	add := func(s life.State) {
		if !slices.Contains(l, s) {
			l = append(l, s)
		}
	}
	for _, s := range from {
		add(s)
	}
	for i := 0; i < len(l); i++ {
		for _, x := range steps(a, l[i], true) {
			add(x.to)
		}
		if len(l) > 1500 {
			return nil
		}
	}
	return l
}

// told is the labels of a list, each once, rising.
func told(a bpel.Act, l []life.State) []api.Label {
	all := map[api.Label]int{}
	for _, s := range l {
		for _, x := range steps(a, s, false) {
			all[x.label]++
		}
	}
	var rising []api.Label
	for kind := range 8 {
		for node := range api.MaxNodes {
			for arg := range 50 {
				if x := (api.Label{Kind: kind, Node: node, Arg: arg}); all[x] > 0 {
					rising = append(rising, x)
				}
			}
		}
	}
	return rising
}

// behind is what moves with a label lead to.
func behind(a bpel.Act, l []life.State, x api.Label) []life.State {
	var next []life.State
	for _, s := range l {
		for _, y := range steps(a, s, false) {
			if y.label == x {
				next = append(next, y.to)
			}
		}
	}
	return next
}

// wantClosed holds a cloud against the closed list of states; false, if that is too great.
func wantClosed(t *testing.T, a bpel.Act, from []life.State, got []life.State, err api.Errno) bool {
	t.Helper()
	want := closed(a, from)
	if want == nil && len(from) > 0 {
		if len(got) != 0 || err != api.ErrFull {
			t.Fatalf("%s of %v: %d states, %v; want too many", text(from), a, len(got), err)
		}
		return false
	}
	if !slices.Equal(got, want) || err != api.OK {
		t.Fatalf("%s of %v: %s, %v; want %s", text(from), a, text(got), err, text(want))
	}
	return true
}

// 26.1, 26.2: clouds on the way along any labels.
func TestClouds(t *testing.T) {
	r := rand.New(rand.NewSource(2))
	kinds := map[int]int{}
	great, longest := 0, 0
	for range 250 {
		a := program(r)
		kinds[a.Kind]++
		start, _ := life.Start(a)
		c, err := hold.Begin(a)
		ok := wantClosed(t, a, []life.State{start}, c, err)
		for range 12 {
			if !ok || len(c) > 600 {
				break
			}
			great = max(great, len(c))
			labels := hold.Labels(a, c)
			if want := told(a, c); !slices.Equal(labels, want) {
				t.Fatalf("%s of %v: %v; want %v", text(c), a, labels, want)
			}
			longest = max(longest, len(labels))
			if len(labels) == 0 {
				break
			}
			x := labels[r.Intn(len(labels))]
			next, err := hold.After(a, c, x)
			ok = wantClosed(t, a, behind(a, c, x), next, err)
			c = next
		}
	}
	if great < 50 || longest < 6 || kinds[bpel.Web] < 30 || kinds[bpel.Rules] < 30 || kinds[bpel.Sequence] < 30 {
		t.Errorf("the greatest cloud has %d states, one %d labels; kinds %v", great, longest, kinds)
	}
}

// 26.1, 26.2: lists that are no clouds: not closed, with states twice, to which no run comes.
func TestLists(t *testing.T) {
	r := rand.New(rand.NewSource(3))
	silent := 0
	for range 400 {
		a := program(r)
		start, _ := life.Start(a)
		var l []life.State
		for range r.Intn(4) {
			s := start
			for range r.Intn(4) {
				s.Status[r.Intn(bpel.Size(a))] = r.Intn(life.Asks + 1)
			}
			s.Vars[r.Intn(api.Vars)], s.Queue[r.Intn(api.Msgs)] = r.Intn(2), r.Intn(api.MaxHold)
			l = append(l, s)
		}
		l = append(l, l...)
		r.Shuffle(len(l), func(i, j int) { l[i], l[j] = l[j], l[i] })
		c, err := hold.Close(a, l)
		wantClosed(t, a, l, c, err)
		if len(c) > len(l)/2 {
			silent++
		}
		labels := hold.Labels(a, l)
		if want := told(a, l); !slices.Equal(labels, want) {
			t.Fatalf("%s of %v: %v; want %v", text(l), a, labels, want)
		}
		for _, x := range labels {
			c, err := hold.After(a, l, x)
			wantClosed(t, a, behind(a, l, x), c, err)
		}
	}
	if silent < 40 {
		t.Errorf("%d lists had more behind them", silent)
	}
}

// run is the labels, but Silent, of a run by picks, as far as it goes.
func run(a bpel.Act, picks []int) []api.Label {
	s, _ := life.Start(a)
	var l []api.Label
	for _, p := range picks {
		all := life.Moves(a, s)
		if len(all) == 0 {
			continue
		}
		at := 0
		for range p {
			at++
			if at == len(all) {
				at = 0
			}
		}
		if all[at].Label != (api.Label{}) {
			l = append(l, all[at].Label)
		}
		s, _, _ = life.Do(a, s, at)
	}
	return l
}

// 26.3, 26.4: what is seen of a run is what its moves show, and is accepted.
func TestRuns(t *testing.T) {
	r := rand.New(rand.NewSource(4))
	accepted, ends := 0, 0
	for range 350 {
		a := program(r)
		var picks []int
		for range r.Intn(40) {
			picks = append(picks, r.Intn(30))
		}
		l, err := hold.Seen(a, picks)
		if want := run(a, picks); !slices.Equal(l, want) || err != api.OK {
			t.Fatalf("Seen(%v, %v): %v, %v; want %v", a, picks, l, err, want)
		}
		many, err := hold.Accepts(a, l)
		if err != api.OK && (err != api.ErrFull || many != 0) || err == api.OK && many != len(l) {
			t.Fatalf("Accepts(%v, %v): %d, %v", a, l, many, err)
		}
		if err == api.OK {
			accepted++
		}
		if len(l) > 0 && l[len(l)-1] == finished {
			ends++
		}
	}
	if accepted < 280 || ends < 40 {
		t.Errorf("%d runs accepted, %d to the end", accepted, ends)
	}
}

// far is how many labels, from a state on, can be seen, by going all ways; known is where it was since the last one.
func far(a bpel.Act, s life.State, l []api.Label, known map[life.State]bool) int {
	if known[s] {
		return 0
	}
	known[s] = true
	best := 0
	for _, x := range steps(a, s, true) {
		best = max(best, far(a, x.to, l, known))
	}
	for _, x := range steps(a, s, false) {
		if len(l) > 0 && x.label == l[0] {
			best = max(best, 1+far(a, x.to, l[1:], map[life.State]bool{}))
		}
	}
	return best
}

// 26.2: as many are accepted as any run shows.
func TestFar(t *testing.T) {
	r := rand.New(rand.NewSource(5))
	var times [7]int
	for range 300 {
		a := program(r)
		start, _ := life.Start(a)
		c, err := hold.Begin(a)
		var l []api.Label
		for range r.Intn(len(times)) {
			if err != api.OK || len(c) > 60 {
				break
			}
			labels := hold.Labels(a, c)
			if len(labels) == 0 || r.Intn(6) == 0 {
				l = append(l, api.Label{Kind: r.Intn(8), Node: r.Intn(api.MaxNodes), Arg: r.Intn(2)})
				continue
			}
			x := labels[r.Intn(len(labels))]
			l = append(l, x)
			c, err = hold.After(a, c, x)
		}
		if err != api.OK || len(c) > 60 {
			continue
		}
		k, err := hold.Accepts(a, l)
		if want := far(a, start, l, map[life.State]bool{}); k != want || err != api.OK {
			t.Fatalf("%v: %v: %d, %v; want %d", a, l, k, err, want)
		}
		times[k]++
	}
	for k, many := range times {
		if many < 5 {
			t.Errorf("%d labels: %d times", k, many)
		}
	}
}
