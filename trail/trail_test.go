package trail_test

import (
	"math/rand"
	"reflect"
	"slices"
	"testing"

	"treenail/api"
	"treenail/chart"
	"treenail/token"
	"treenail/trail"
)

func read(t *testing.T, inside string) api.Net {
	t.Helper()
	n, at, why, e := chart.Read("<process>" + inside + "</process>")
	if e != api.OK {
		t.Fatalf("%s: %v at %d, %d", inside, e, at, why)
	}
	return n
}

const task = `<start/><task var="0"/><end/><flow from="0" to="1"/><flow from="1" to="2"/>`

func did(node, arg int) api.Label { return api.Label{Kind: api.Did, Node: node, Arg: arg} }

var finished = api.Label{Kind: api.Finished}

// state has noughts, but for one token on each of some flows.
func state(flows ...int) token.State {
	var s token.State
	for _, f := range flows {
		s.Tokens[f]++
	}
	return s
}

// many is so many states, with one token on a flow, that differ in a variable alone.
func many(count, flow, variable int) []token.State {
	l := make([]token.State, count)
	for i := range l {
		l[i] = state(flow)
		l[i].Vars[variable] = i
	}
	return l
}

// burst is a task, and behind it a fork of so many ways that a choice joins: whatever goes there goes silently.
func burst(ways int) api.Net {
	n := api.Net{
		Nodes: []api.Node{{Kind: api.Start}, {Kind: api.Task}, {Kind: api.And}, {Kind: api.Xor}, {Kind: api.End}},
		Flows: []api.Flow{{From: 0, To: 1}, {From: 1, To: 2}, {From: 3, To: 4}},
	}
	for range ways {
		n.Flows = append(n.Flows, api.Flow{From: 2, To: 3})
	}
	return n
}

func wantCloud(t *testing.T, what string, got []token.State, e api.Errno, want ...token.State) {
	t.Helper()
	if !slices.Equal(got, want) || e != api.OK {
		t.Errorf("%s: %v, %v, wanted %v", what, got, e, want)
	}
}

func wantError(t *testing.T, what string, got []token.State, e, want api.Errno) {
	t.Helper()
	if len(got) != 0 || e != want {
		t.Errorf("%s: %d states, %v, wanted %v", what, len(got), e, want)
	}
}

// Example 1 of the chapter.
func TestExample(t *testing.T) {
	n := read(t, `<start/><xor/><task var="0"/><task var="1"/><xor/><end/><flow from="0" to="1"/><flow from="1" to="2" if="(eq $0 1)"/><flow from="1" to="3" else="yes"/>`+
		`<flow from="2" to="4"/><flow from="3" to="4"/><flow from="4" to="5"/>`)
	c, e := trail.Begin(n)
	wantCloud(t, "Begin", c, e, state(0), state(2))
	if l := trail.Labels(n, c); !slices.Equal(l, []api.Label{did(3, 0), did(3, 1)}) {
		t.Errorf("%v", l)
	}
}

// 8.1: states stand in the order in which they were found: those of the list first, then what each one's silent moves lead to.
func TestOrder(t *testing.T) {
	n := read(t, `<start/><and/><xor/><end/><flow from="0" to="1"/><flow from="1" to="2"/><flow from="1" to="2"/><flow from="2" to="3"/>`)
	c, e := trail.Begin(n)
	wantCloud(t, "Begin", c, e, state(0), state(1, 2), state(2, 3), state(1, 3), state(3, 3), state(2), state(1), state(3))
	c, e = trail.Close(n, []token.State{state(3), state(1), state(3), state(2), state(1)})
	wantCloud(t, "Close", c, e, state(3), state(1), state(2))
	c, e = trail.Close(n, []token.State{state(1), state(2, 3)})
	wantCloud(t, "Close", c, e, state(1), state(2, 3), state(3), state(3, 3), state(2))
	if l := trail.Labels(n, c); !slices.Equal(l, []api.Label{finished}) {
		t.Errorf("%v", l)
	}
	c, e = trail.Close(n, nil)
	wantCloud(t, "Close", c, e)
}

// 8.1: what is seen is not gone behind, and Ended and Broken states have nothing behind them.
func TestNoMore(t *testing.T) {
	n := read(t, task)
	c, e := trail.Begin(n)
	wantCloud(t, "Begin", c, e, state(0))
	ended, broken := state(), state(1)
	ended.Mode, broken.Mode = token.Ended, token.Broken
	c, e = trail.Close(n, []token.State{ended, broken})
	wantCloud(t, "Close", c, e, ended, broken)
	if l := trail.Labels(n, c); len(l) != 0 {
		t.Errorf("%v", l)
	}
}

// 8.1: Close's errors, the first that is told.
func TestCloseErrors(t *testing.T) {
	n := read(t, task)
	bad := state(0)
	bad.Mode = 3
	for _, wrong := range []api.Net{{}, {Nodes: n.Nodes}, {Nodes: n.Nodes, Flows: n.Flows[:1]}} {
		for _, l := range [][]token.State{nil, {state(0)}, {bad}, many(trail.Most+1, 0, 1)} {
			c, e := trail.Close(wrong, l)
			wantError(t, "Close", c, e, api.ErrForm)
			c, e = trail.After(wrong, l, api.Label{})
			wantError(t, "After", c, e, api.ErrForm)
		}
		c, e := trail.Begin(wrong)
		wantError(t, "Begin", c, e, api.ErrForm)
		if k, e := trail.Accepts(wrong, []api.Label{finished}); k != 0 || e != api.ErrForm {
			t.Errorf("Accepts: %d, %v", k, e)
		}
	}
	for _, l := range [][]token.State{{bad}, {state(0), bad}, {bad, state(0)}, {state(2)}, append(many(trail.Most+1, 0, 1), bad)} {
		c, e := trail.Close(n, l)
		wantError(t, "Close", c, e, api.ErrArg)
		c, e = trail.After(n, l, did(1, 0))
		wantError(t, "After", c, e, api.ErrArg)
	}
}

// 8.1: a cloud has Most states, and no more; each counts once.
func TestMost(t *testing.T) {
	n := read(t, task)
	l := many(trail.Most, 0, 1)
	c, e := trail.Close(n, slices.Concat(l, l))
	wantCloud(t, "Close", c, e, l...)
	c, e = trail.Close(n, append(l, state(1)))
	wantError(t, "Close", c, e, api.ErrFull)

	// the last one is found by a silent move
	n = burst(2)
	l = many(trail.Most, 0, 1)
	l[trail.Most-1] = state(2, 2)
	c, e = trail.Close(n, l)
	wantError(t, "Close", c, e, api.ErrFull)
	c, e = trail.Close(n, l[1:])
	wantCloud(t, "Close", c, e, append(slices.Clone(l[1:]), state(2))...)
	if trail.Most != 1500 {
		t.Error(trail.Most)
	}
}

// 8.1: Begin's cloud may be too great; so is what comes then.
func TestGreat(t *testing.T) {
	n := burst(12)
	if c, e := trail.Begin(n); len(c) != 1 || e != api.OK {
		t.Errorf("%v, %v", c, e)
	}
	c, e := trail.After(n, []token.State{state(0)}, did(1, 0))
	wantError(t, "After", c, e, api.ErrFull)
	for i, x := range []struct {
		l    []api.Label
		want int
		e    api.Errno
	}{
		{nil, 0, api.OK},
		{[]api.Label{did(1, 0)}, 0, api.ErrFull},
		{[]api.Label{finished, did(1, 0)}, 0, api.OK},
		{[]api.Label{{}, did(1, 0)}, 0, api.OK},
	} {
		if k, e := trail.Accepts(n, x.l); k != x.want || e != x.e {
			t.Errorf("%d: %d, %v", i, k, e)
		}
	}

	// the fork right behind the start
	n = api.Net{Nodes: slices.Delete(n.Nodes, 1, 2), Flows: slices.Delete(n.Flows, 0, 1)}
	for f := range n.Flows {
		n.Flows[f].From--
		n.Flows[f].To--
	}
	c, e = trail.Begin(n)
	wantError(t, "Begin", c, e, api.ErrFull)
	for _, l := range [][]api.Label{nil, {{}}, {did(1, 0)}} {
		if k, e := trail.Accepts(n, l); k != 0 || e != api.ErrFull {
			t.Errorf("%d, %v", k, e)
		}
	}
}

// 8.1: labels rise, each once, and hang on the states as they are handed in.
func TestLabels(t *testing.T) {
	n := read(t, `<start/><and/><task var="1"/><assign var="0" value="(div 1 $0)"/><event/><catch message="2"/><catch/><catch message="0"/><xor/><and/><end/>`+
		`<flow from="0" to="1"/><flow from="1" to="2"/><flow from="1" to="3"/><flow from="1" to="4"/><flow from="4" to="5"/><flow from="4" to="6"/><flow from="4" to="7"/>`+
		`<flow from="5" to="8"/><flow from="6" to="8"/><flow from="7" to="8"/><flow from="2" to="9"/><flow from="3" to="9"/><flow from="8" to="9"/><flow from="9" to="10"/>`)
	all := state(1, 2, 3)
	all.Queue = [api.Msgs]int{1, 0, 1, 0}
	set := all
	set.Vars[0] = 1
	last := state(13)
	want := []api.Label{
		did(2, 0), did(2, 1), {Kind: api.Set, Node: 3}, {Kind: api.Got, Node: 5}, {Kind: api.Got, Node: 7}, {Kind: api.Rang, Node: 6},
		{Kind: api.Arrived, Arg: 0}, {Kind: api.Arrived, Arg: 2}, {Kind: api.Faulted, Node: 3, Arg: int(api.ErrZero)}, finished,
	}
	for _, l := range [][]token.State{{all, set, last}, {last, set, all}, {last, all, last, set, set}} {
		if got := trail.Labels(n, l); !slices.Equal(got, want) {
			t.Errorf("%v", got)
		}
	}

	// the start alone is not closed, and a list that is not closed is not closed for this
	arrivals := []api.Label{{Kind: api.Arrived, Arg: 0}, {Kind: api.Arrived, Arg: 2}}
	if got := trail.Labels(n, []token.State{state(0)}); !slices.Equal(got, arrivals) {
		t.Errorf("%v", got)
	}
	if got := trail.Labels(n, nil); len(got) != 0 {
		t.Errorf("%v", got)
	}

	// what is no state has no moves
	bad := set
	bad.Vars[3] = api.MaxInt + 1
	if got := trail.Labels(n, []token.State{bad, state(0)}); !slices.Equal(got, arrivals) {
		t.Errorf("%v", got)
	}
	if got := trail.Labels(api.Net{}, []token.State{state(0)}); len(got) != 0 {
		t.Errorf("%v", got)
	}
}

// 8.2: what is behind a label.
func TestAfter(t *testing.T) {
	n := read(t, `<start/><and/><task var="1"/><task var="0"/><and/><end/>`+
		`<flow from="0" to="1"/><flow from="1" to="2"/><flow from="1" to="3"/><flow from="2" to="4"/><flow from="3" to="4"/><flow from="4" to="5"/>`)
	with := func(s token.State, vars ...int) token.State {
		copy(s.Vars[:], vars)
		return s
	}
	c, e := trail.Begin(n)
	wantCloud(t, "Begin", c, e, state(0), state(1, 2))
	one, e := trail.After(n, c, did(3, 1))
	wantCloud(t, "After", one, e, with(state(1, 4), 1))
	two, e := trail.After(n, one, did(2, 1))
	wantCloud(t, "After", two, e, with(state(3, 4), 1, 1), with(state(5), 1, 1))
	end, e := trail.After(n, two, finished)
	ended := with(state(), 1, 1)
	ended.Mode = token.Ended
	wantCloud(t, "After", end, e, ended)

	// state by state, and closed behind that
	both := []token.State{with(state(2, 3), 0, 1), state(1, 2), with(state(2, 3), 0, 1)}
	c, e = trail.After(n, both, did(3, 0))
	wantCloud(t, "After", c, e, with(state(3, 4), 0, 1), state(1, 4), with(state(5), 0, 1))

	// none is no error; the list that is handed in is not closed first
	for _, x := range []api.Label{did(2, 2), did(4, 0), finished, {Kind: 8}, {Kind: -1}, {Kind: api.Finished, Node: 5}} {
		c, e := trail.After(n, one, x)
		wantCloud(t, "After", c, e)
	}
	c, e = trail.After(n, []token.State{state(0)}, did(2, 0))
	wantCloud(t, "After", c, e)
	c, e = trail.After(n, nil, did(2, 0))
	wantCloud(t, "After", c, e)

	for _, x := range []api.Label{{}, {Node: 2}, {Arg: 1}} {
		c, e := trail.After(n, one, x)
		wantError(t, "After", c, e, api.ErrArg)
		c, e = trail.After(n, nil, x)
		wantError(t, "After", c, e, api.ErrArg)
	}
}

// 8.2: the cloud that is handed in may be greater than Most; what is behind may not.
func TestAfterMost(t *testing.T) {
	n := read(t, task)
	ended := state(1)
	c, e := trail.After(n, many(2*trail.Most, 0, 0), did(1, 0))
	wantCloud(t, "After", c, e, ended)
	c, e = trail.After(n, many(trail.Most, 0, 1), did(1, 0))
	wantCloud(t, "After", c, e, many(trail.Most, 1, 1)...)
	c, e = trail.After(n, many(trail.Most+1, 0, 1), did(1, 0))
	wantError(t, "After", c, e, api.ErrFull)
	c, e = trail.After(n, many(trail.Most+1, 0, 1), finished)
	wantCloud(t, "After", c, e)
}

// 8.2: how many labels can be seen one behind the other.
func TestAccepts(t *testing.T) {
	n := read(t, `<start/><xor/><task var="0"/><xor/><end/><flow from="0" to="1"/><flow from="1" to="2"/><flow from="2" to="3"/><flow from="3" to="1" if="(eq $0 1)"/><flow from="3" to="4" else="yes"/>`)
	ones := make([]api.Label, 300)
	for i := range ones {
		ones[i] = did(2, 1)
	}
	for i, x := range []struct {
		l    []api.Label
		want int
	}{
		{nil, 0},
		{ones, 300},
		{append(slices.Clone(ones), did(2, 0), finished), 302},
		{append(slices.Clone(ones), did(2, 0), did(2, 0), finished), 301},
		{append(slices.Clone(ones), finished), 300},
		{[]api.Label{did(2, 0), finished, finished}, 2},
		{[]api.Label{did(2, 0), {}, finished}, 1},
		{[]api.Label{{Node: 2}, did(2, 0)}, 0},
		{[]api.Label{did(2, 2)}, 0},
		{[]api.Label{{Kind: -1}}, 0},
	} {
		if k, e := trail.Accepts(n, x.l); k != x.want || e != api.OK {
			t.Errorf("%d: %d, %v", i, k, e)
		}
	}
}

// 8.3: by Kind, then Node, then Arg.
func TestLess(t *testing.T) {
	var rising []api.Label
	for k := -1; k <= 8; k++ {
		for _, node := range []int{-1 << 63, -1, 0, 3, 1<<63 - 1} {
			for _, arg := range []int{-1 << 63, -1, 0, 2, 1<<63 - 1} {
				rising = append(rising, api.Label{Kind: k, Node: node, Arg: arg})
			}
		}
	}
	for i, a := range rising {
		for j, b := range rising {
			if trail.Less(a, b) != (i < j) {
				t.Errorf("%v, %v: %v", a, b, i < j)
			}
		}
	}
}

// R3: what is handed in stays as it is, spare room too, and answers are new memory.
func TestMemory(t *testing.T) {
	n := burst(3)
	start := state(0)
	start.Queue[1] = 2
	l := append(make([]token.State, 0, 50), state(2, 2), start, state(2, 2), state(4))
	was := slices.Clone(l[:cap(l)])
	flows := slices.Clone(n.Flows[:cap(n.Flows)])
	calls := func() [][]token.State {
		a, _ := trail.Close(n, l)
		b, _ := trail.After(n, l, did(1, 0))
		c, _ := trail.Begin(n)
		d, _ := trail.Close(n, l[1:2])
		return [][]token.State{a, b, c, d}
	}
	first, second := calls(), calls()
	labels := trail.Labels(n, l)
	trail.Labels(n, l)[0] = api.Label{}
	for i, a := range first {
		if len(a) == 0 || !slices.Equal(a, second[i]) {
			t.Fatalf("%d: %v", i, a)
		}
		a = a[:cap(a)]
		for j := range a {
			a[j].Mode = 9
		}
	}
	if third := calls(); !reflect.DeepEqual(second, third) || !slices.Equal(labels, trail.Labels(n, l)) {
		t.Error("an answer is shared")
	}
	if !slices.Equal(was, l[:cap(l)]) || !reflect.DeepEqual(flows, n.Flows[:cap(n.Flows)]) {
		t.Error("an argument is another one")
	}
	seen := append(make([]api.Label, 0, 9), did(1, 0), did(1, 1))
	trail.Accepts(n, seen)
	if !slices.Equal(seen[:9], []api.Label{did(1, 0), did(1, 1), {}, {}, {}, {}, {}, {}, {}}) {
		t.Errorf("%v", seen[:9])
	}
}

// P3: any numbers in states and labels.
func TestAnyNumbers(t *testing.T) {
	r := rand.New(rand.NewSource(1))
	number := func() int {
		l := []int{-1 << 63, -1, 0, 1, 2, 3, 4, 7, 8, 40, 1<<63 - 1}
		return l[r.Intn(len(l))]
	}
	n := burst(4)
	for range 600 {
		l := make([]token.State, r.Intn(4))
		for i := range l {
			l[i] = state(r.Intn(5))
			if r.Intn(3) == 0 {
				l[i].Tokens[r.Intn(api.MaxFlows)], l[i].Vars[r.Intn(api.Vars)], l[i].Queue[r.Intn(api.Msgs)], l[i].Mode = number(), number(), number(), r.Intn(3)
			}
		}
		want := api.OK
		for _, s := range l {
			if token.Check(n, s) != api.OK {
				want = api.ErrArg
			}
		}
		c, e := trail.Close(n, l)
		if e != want || e != api.OK && len(c) > 0 {
			t.Fatalf("%v: %v, %v", l, c, e)
		}
		x := api.Label{Kind: number(), Node: number(), Arg: number()}
		if x.Kind == api.Silent {
			want = api.ErrArg
		}
		if c, e := trail.After(n, l, x); e != want || e != api.OK && len(c) > 0 {
			t.Fatalf("%v, %v: %v, %v", l, x, c, e)
		}
		trail.Labels(n, l)
		trail.Accepts(n, []api.Label{did(1, 0), x})
	}
}
