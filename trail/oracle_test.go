package trail_test

import (
	"cmp"
	"math/rand"
	"slices"
	"testing"

	"treenail/api"
	"treenail/sample"
	"treenail/token"
	"treenail/trail"
)

func process(r *rand.Rand) api.Net {
	if r.Intn(3) == 0 {
		return sample.Net(r.Intn)
	}
	return sample.Crossed(r.Intn)
}

// leads is what the moves of a state lead to that are, or are not, Silent, with their labels.
func leads(n api.Net, s token.State, silent bool) ([]api.Label, []token.State) {
	var labels []api.Label
	var states []token.State
	for i := range token.Moves(n, s) {
		if to, label, _ := token.Do(n, s, i); (label.Kind == api.Silent) == silent {
			labels, states = append(labels, label), append(states, to)
		}
	}
	return labels, states
}

// closed is the closed list, by looking through all of it; nil, if it is too great.
func closed(n api.Net, l []token.State) []token.State {
	var c []token.State
	todo := l
	for i := 0; ; i++ {
		for _, s := range todo {
			if !slices.Contains(c, s) {
				c = append(c, s)
			}
		}
		if len(c) > 1500 {
			return nil
		}
		if i >= len(c) {
			return c
		}
		_, todo = leads(n, c[i], true)
	}
}

// told is the labels of a list, each once, rising.
func told(n api.Net, l []token.State) []api.Label {
	all := map[api.Label]bool{}
	for _, s := range l {
		labels, _ := leads(n, s, false)
		for _, x := range labels {
			all[x] = true
		}
	}
	var rising []api.Label
	for x := range all {
		rising = append(rising, x)
	}
	slices.SortFunc(rising, func(a, b api.Label) int {
		if a.Kind != b.Kind {
			return cmp.Compare(a.Kind, b.Kind)
		}
		return cmp.Compare(a.Node*1000+a.Arg, b.Node*1000+b.Arg)
	})
	return rising
}

// behind is what moves with a label lead to.
func behind(n api.Net, l []token.State, x api.Label) []token.State {
	var next []token.State
	for _, s := range l {
		labels, states := leads(n, s, false)
		for i, y := range labels {
			if y == x {
				next = append(next, states[i])
			}
		}
	}
	return next
}

// wantClosed holds a cloud against the closed list of states; false, if that is too great.
func wantClosed(t *testing.T, n api.Net, from []token.State, got []token.State, e api.Errno) bool {
	t.Helper()
	want := closed(n, from)
	if want == nil && len(from) > 0 {
		if len(got) != 0 || e != api.ErrFull {
			t.Fatalf("%v of %v: %d states, %v, wanted too many", from, n, len(got), e)
		}
		return false
	}
	if !slices.Equal(got, want) || e != api.OK {
		t.Fatalf("%v of %v: %v, %v, wanted %v", from, n, got, e, want)
	}
	return true
}

// 8.1, 8.2: clouds on the way along any labels.
func TestClouds(t *testing.T) {
	r := rand.New(rand.NewSource(2))
	great, full, longest := 0, 0, 0
	for range 150 {
		n := process(r)
		start, _ := token.Start(n)
		c, e := trail.Begin(n)
		ok := wantClosed(t, n, []token.State{start}, c, e)
		for range 12 {
			if !ok {
				full++
				break
			}
			great = max(great, len(c))
			labels := trail.Labels(n, c)
			if want := told(n, c); !slices.Equal(labels, want) {
				t.Fatalf("%v of %v: %v, wanted %v", c, n, labels, want)
			}
			longest = max(longest, len(labels))
			if len(labels) == 0 {
				break
			}
			x := labels[r.Intn(len(labels))]
			next, e := trail.After(n, c, x)
			ok = wantClosed(t, n, behind(n, c, x), next, e)
			c = next
		}
	}
	if great < 50 || longest < 6 {
		t.Errorf("the greatest cloud has %d states, one %d labels; %d too great", great, longest, full)
	}
}

// 8.1, 8.2: lists that are no clouds: not closed, with states twice.
func TestLists(t *testing.T) {
	r := rand.New(rand.NewSource(3))
	for range 400 {
		n := process(r)
		var l []token.State
		for range r.Intn(4) {
			var s token.State
			for range 1 + r.Intn(2) {
				s.Tokens[r.Intn(len(n.Flows))]++
			}
			s.Vars[r.Intn(api.Vars)], s.Queue[r.Intn(api.Msgs)] = r.Intn(2), r.Intn(api.MaxHold)
			l = append(l, s)
		}
		l = append(l, l...)
		r.Shuffle(len(l), func(i, j int) { l[i], l[j] = l[j], l[i] })
		c, e := trail.Close(n, l)
		wantClosed(t, n, l, c, e)
		labels := trail.Labels(n, l)
		if want := told(n, l); !slices.Equal(labels, want) {
			t.Fatalf("%v of %v: %v, wanted %v", l, n, labels, want)
		}
		for _, x := range labels {
			c, e := trail.After(n, l, x)
			wantClosed(t, n, behind(n, l, x), c, e)
		}
	}
}

// 8.4: what is seen of a run is accepted.
func TestRuns(t *testing.T) {
	r := rand.New(rand.NewSource(4))
	accepted := 0
	for range 400 {
		n := process(r)
		s, _ := token.Start(n)
		var seen []api.Label
		for range 40 {
			l := token.Moves(n, s)
			if len(l) == 0 {
				break
			}
			to, label, _ := token.Do(n, s, r.Intn(len(l)))
			if label.Kind != api.Silent {
				seen = append(seen, label)
			}
			s = to
		}
		many, e := trail.Accepts(n, seen)
		if e == api.OK && many != len(seen) {
			t.Fatalf("%v: %v: %d", n, seen, many)
		}
		if e != api.OK && (e != api.ErrFull || many != 0) {
			t.Fatalf("%v: %v: %d, %v", n, seen, many, e)
		}
		if e == api.OK {
			accepted++
		}
	}
	if accepted < 300 {
		t.Errorf("%d runs accepted", accepted)
	}
}

// far is how many labels, from a state on, can be seen, by going all ways; known is where it was since the last one.
func far(n api.Net, s token.State, l []api.Label, known map[token.State]bool) int {
	if known[s] {
		return 0
	}
	known[s] = true
	best := 0
	for i, m := range token.Moves(n, s) {
		to, _, _ := token.Do(n, s, i)
		switch {
		case m.Label.Kind == api.Silent:
			best = max(best, far(n, to, l, known))
		case len(l) > 0 && m.Label == l[0]:
			best = max(best, 1+far(n, to, l[1:], map[token.State]bool{}))
		}
	}
	return best
}

// 8.2: as many are accepted as any run shows.
func TestFar(t *testing.T) {
	r := rand.New(rand.NewSource(5))
	var times [8]int
	for range 300 {
		n := process(r)
		start, _ := token.Start(n)
		c, e := trail.Begin(n)
		if e != api.OK {
			continue
		}
		var l []api.Label
		for range r.Intn(len(times)) {
			labels := trail.Labels(n, c)
			if len(labels) == 0 || r.Intn(6) == 0 {
				l = append(l, api.Label{Kind: r.Intn(8), Node: r.Intn(len(n.Nodes)), Arg: r.Intn(2)})
				continue
			}
			x := labels[r.Intn(len(labels))]
			l = append(l, x)
			c, _ = trail.After(n, c, x)
		}
		k, e := trail.Accepts(n, l)
		if e != api.OK {
			continue
		}
		if want := far(n, start, l, map[token.State]bool{}); k != want {
			t.Fatalf("%v: %v: %d, wanted %d", n, l, k, want)
		}
		times[k]++
	}
	for k, many := range times {
		if many < 5 {
			t.Errorf("%d labels: %d times", k, many)
		}
	}
}
