package dead_test

import (
	"math"
	"reflect"
	"slices"
	"strconv"
	"strings"
	"testing"

	"treenail/api"
	"treenail/bpel"
	"treenail/dead"
	"treenail/sample"
)

// linked is a Web whose kids are letters (w is a Wait, a digit a Gate that does this) and whose links are written as >0 0-1 1>.
func linked(kids, links string) bpel.Act {
	w := bpel.Act{Kind: bpel.Web}
	for _, l := range strings.Fields(links) {
		from, to, _ := strings.Cut(strings.Replace(strings.Replace(l, ">", "-", 1), "--", "-", 1), "-")
		w.Links = append(w.Links, bpel.Link{From: place(from), To: place(to)})
	}
	for i, letter := range kids {
		k := bpel.Act{Kind: bpel.Wait, Node: i}
		if letter != 'w' {
			k.Kind, k.A = bpel.Gate, int(letter-'0')
		}
		if letter == '3' {
			k.Conds = truths(strings.Count(" "+links, " "+strconv.Itoa(i)+"-"))
		}
		w.Kids = append(w.Kids, k)
	}
	return w
}

func place(s string) int {
	if s == "" {
		return -1
	}
	n, _ := strconv.Atoi(s)
	return n
}

// truths are so many conds, of which the first is the else one.
func truths(count int) []api.Term {
	yes := api.Term{Op: api.OpEq, Kids: []api.Term{{Op: api.OpVar}, {Op: api.OpVar}}}
	return append([]api.Term{{}}, slices.Repeat([]api.Term{yes}, count-1)...)
}

// state is one whose links and kids are letters: o, t and g are what became of links, w, r, d and s of kids.
func state(links, kids string) dead.State {
	var s dead.State
	for i, letter := range strings.ReplaceAll(links, " ", "") {
		s.Links[i] = strings.IndexRune("otg", letter)
	}
	for i, letter := range strings.ReplaceAll(kids, " ", "") {
		s.Kids[i] = strings.IndexRune("wrds", letter)
	}
	return s
}

// shown is the state of a web in these letters.
func shown(w bpel.Act, s dead.State) string {
	text := ""
	for i := range w.Links {
		text += string("otg"[s.Links[i]])
	}
	text += " "
	for i := range w.Kids {
		text += string("wrds"[s.Kids[i]])
	}
	return text
}

func wantState(t *testing.T, w bpel.Act, s dead.State, err api.Errno, links, kids string) dead.State {
	t.Helper()
	if want := state(links, kids); err != api.OK || s != want {
		t.Errorf("%s, %v; want %s", shown(w, s), err, shown(w, want))
	}
	return s
}

// wantNone is that there is nothing beside an error.
func wantNone(t *testing.T, s dead.State, err, want api.Errno) {
	t.Helper()
	if err != want || s != (dead.State{}) {
		t.Errorf("%v, %v; want %v", s, err, want)
	}
}

func wantRunning(t *testing.T, w bpel.Act, s dead.State, over bool, want ...int) {
	t.Helper()
	if l := dead.Running(w, s); !slices.Equal(l, want) {
		t.Errorf("Running of %s: %v; want %v", shown(w, s), l, want)
	}
	if dead.Over(w, s) != over {
		t.Errorf("Over of %s: %v", shown(w, s), !over)
	}
}

// 19.1, 19.2: the chapter's example: the kid that is not chosen is skipped.
func TestExample(t *testing.T) {
	w := linked("3ww4", ">0 0-1 0-2 1-3 2-3 3>")
	s, err := dead.Start(w)
	wantState(t, w, s, err, "tooooo", "rwww")
	wantRunning(t, w, s, false, 0)
	for out, c := range [][4]string{{"ttgogo", "drsw", "ttgtgt", "ddsd"}, {"tgtgoo", "dsrw", "tgtgtt", "dsdd"}} {
		s, err := dead.Choose(w, s, 0, out)
		wantState(t, w, s, err, c[0], c[1])
		wantRunning(t, w, s, false, out+1)
		wantNotFinished(t, w, s, api.ErrNone, 0, 2-out, 3)
		s, err = dead.Finish(w, s, out+1)
		wantState(t, w, s, err, c[2], c[3])
		wantRunning(t, w, s, true)
	}
}

func wantNotFinished(t *testing.T, w bpel.Act, s dead.State, want api.Errno, kids ...int) {
	t.Helper()
	for _, kid := range kids {
		to, err := dead.Finish(w, s, kid)
		wantNone(t, to, err, want)
	}
}

// 19.1: the first state, whatever the web begins with.
func TestStart(t *testing.T) {
	for _, c := range [][4]string{
		{"w", ">0 0>", "to", "r"},
		{"w", "0> >0", "ot", "r"},
		{"ww", ">1 1-0 0>", "too", "wr"},
		{"1ww2", ">0 0-1 0-2 1-3 2-3 3>", "tttooo", "drrw"},
		{"12", ">0 0-1 0-1 1>", "tttt", "dd"},
		{"21", "0> 1-0 >1 1-0 1-0", "ttttt", "dd"},
		{"14", ">0 0-1 0-1 1>", "tttt", "dd"},
		{"34", ">0 0-1 0-1 1>", "tooo", "rw"},
		{"1w24w", ">0 0-1 0-2 0-3 1-2 2-3 3-4 4>", "tttt oooo", "drwww"},
		{"121w2", ">0 0-1 0-1 1-2 2-3 2-4 3-4 4>", "tttttt oo", "dddrw"},
		{"2211", "0> 1-0 2-1 2-1 3-0 3-2 >3", "ttttttt", "dddd"},
	} {
		w := linked(c[0], c[1])
		s, err := dead.Start(w)
		wantState(t, w, s, err, c[2], c[3])
		if err := dead.Check(w, s); err != api.OK {
			t.Errorf("Check of %s: %v", shown(w, s), err)
		}
	}
}

// 19.1: all kinds of kids that live, and that do not, by what became of their ins.
func TestSettle(t *testing.T) {
	const joined = ">0 0-1 0-2 1-3 2-3 3-4 4>"
	for _, c := range []struct{ kids, links, was, waits, becomes, kid string }{
		{"1ww2w", joined, "tttoooo", "drrww", "tttotoo", "drdww"},
		{"1ww2w", joined, "ttttooo", "ddrww", "tttttto", "ddddr"},
		{"1ww2w", joined, "tttgooo", "dsrww", "tttgtgg", "dsdss"},
		{"1ww4w", joined, "ttttooo", "ddrww", "tttttto", "ddddr"},
		{"1ww4w", joined, "tttgooo", "dsrww", "tttgtto", "dsddr"},
		{"1ww4w", joined, "tttoooo", "drrww", "tttotoo", "drdww"},
	} {
		w := linked(c.kids, c.links)
		s, err := dead.Finish(w, state(c.was, c.waits), 2)
		wantState(t, w, s, err, c.becomes, c.kid)
	}
	// Behind a kid that is skipped all is skipped, up to where something else comes in.
	w := linked("3w3ww41w24", ">0 0-1 0-2 2-3 2-4 3-5 4-5 5-6 6-7 6-8 7-8 8-9 1-9 9>")
	s, _ := dead.Start(w)
	s, err := dead.Choose(w, s, 0, 0)
	wantState(t, w, s, err, "ttg gg gg g gg g g oo", "drsss ssss w")
	s, err = dead.Finish(w, s, 1)
	wantState(t, w, s, err, "ttg gg gg g gg g g tt", "ddsss ssss d")
	wantRunning(t, w, s, true)
	// A web whose last kid is skipped is never over.
	w = linked("3ww2", ">0 0-1 0-2 1-3 2-3 3>")
	s, _ = dead.Start(w)
	s, _ = dead.Choose(w, s, 0, 1)
	s, err = dead.Finish(w, s, 2)
	wantState(t, w, s, err, "tgtgtg", "dsds")
	wantRunning(t, w, s, false)
}

// 19.1: of kids that could be settled, the least one is, and what that leads to is looked at ahead of the others.
func TestLeast(t *testing.T) {
	// No run comes to these states: a link is closed already, and the kid from which it leads waits. Whoever is settled first sees another link.
	w := linked("14ww", ">0 0-1 0-2 2-1 1-3 3>")
	s, err := dead.Finish(w, state("t gg t o o", "d w w r"), 3)
	wantState(t, w, s, err, "t gg g t t", "d d s d")
	w = linked("1w4w", ">0 0-1 0-2 1-2 2-3 3>")
	s, err = dead.Finish(w, state("t gg t o o", "d w w r"), 3)
	wantState(t, w, s, err, "t gg g g t", "d s s d")
	w = linked("ww43w4", ">3 3-1 3-2 3-4 1-0 0-2 2-5 4-5 5>")
	s, err = dead.Choose(w, state("t ooo o t o o o", "wwwrww"), 3, 2)
	wantState(t, w, s, err, "t ggt g g g o o", "sssdrw")
}

// wrong are what is no right program of Kind Web.
func wrong() map[string]bpel.Act {
	wait := bpel.Act{Kind: bpel.Wait, Node: 1}
	many := linked("w", ">0 0>")
	many.Kids[0] = bpel.Act{Kind: bpel.Flow, Kids: slices.Repeat([]bpel.Act{{Kind: bpel.Empty}}, bpel.Most-1)}
	return map[string]bpel.Act{
		"nothing":       {},
		"a Wait":        wait,
		"a Sequence":    {Kind: bpel.Sequence, Kids: []bpel.Act{wait, {Kind: bpel.Empty}}},
		"a Gate":        {Kind: bpel.Gate, A: 1},
		"Rules":         {Kind: bpel.Rules, Net: sample.Of("ste", "0-1 1-2")},
		"no kids":       {Kind: bpel.Web},
		"no links":      {Kind: bpel.Web, Kids: []bpel.Act{wait}},
		"a node twice":  {Kind: bpel.Web, Kids: []bpel.Act{wait, wait}, Links: []bpel.Link{{From: -1, To: 0}, {From: 0, To: 1}, {From: 1, To: -1}}},
		"97 activities": many,
		"going round":   linked("w41w", ">0 0-1 1-2 2-1 2-3 3>"),
		"two ways out":  linked("1ww", ">0 0-1 0-2 1> 2>"),
	}
}

// 19.1, 19.2: ErrForm comes first, whatever the state and the kid are.
func TestWrongWeb(t *testing.T) {
	for what, w := range wrong() {
		s, err := dead.Start(w)
		wantNone(t, s, err, api.ErrForm)
		for _, s := range []dead.State{{}, state("t", "r"), state("toooo", "rwww"), {Links: [api.MaxFlows]int{-1}}, {Kids: [64]int{63: 9}}} {
			if err := dead.Check(w, s); err != api.ErrForm {
				t.Errorf("Check of %s: %v", what, err)
			}
			for _, i := range []int{0, 1, -1, math.MaxInt} {
				to, err := dead.Finish(w, s, i)
				wantNone(t, to, err, api.ErrForm)
				to, err = dead.Choose(w, s, i, i)
				wantNone(t, to, err, api.ErrForm)
			}
			if l := dead.Running(w, s); len(l) > 0 || dead.Over(w, s) {
				t.Errorf("%s: %v", what, l)
			}
		}
	}
}

// 19.1, 19.2: what is no state, at the edges; then nothing else is asked.
func TestCheck(t *testing.T) {
	w := linked("3ww4", ">0 0-1 0-2 1-3 2-3 3>")
	set := func(place func(s *dead.State) *int, value int, want api.Errno) {
		t.Helper()
		s := state("tooo ot", "rrww")
		*place(&s) = value
		if err := dead.Check(w, s); err != want {
			t.Errorf("%v: %v; want %v", s, err, want)
		}
		if want == api.OK {
			return
		}
		for _, i := range []int{0, 1, -1, 4, math.MinInt} {
			to, err := dead.Finish(w, s, i)
			wantNone(t, to, err, want)
			to, err = dead.Choose(w, s, i, i)
			wantNone(t, to, err, want)
		}
		if l := dead.Running(w, s); len(l) > 0 || dead.Over(w, s) {
			t.Errorf("%v: %v", s, l)
		}
	}
	within := func(place func(s *dead.State) *int, most int) {
		t.Helper()
		for v := range most + 1 {
			set(place, v, api.OK)
		}
		for _, v := range []int{-1, most + 1, math.MinInt, math.MaxInt} {
			set(place, v, api.ErrArg)
		}
	}
	for i := range api.MaxFlows {
		most := 0
		if i < len(w.Links) {
			most = dead.Gone
		}
		within(func(s *dead.State) *int { return &s.Links[i] }, most)
	}
	for i := range 64 {
		most := 0
		if i < len(w.Kids) {
			most = dead.Skipped
		}
		within(func(s *dead.State) *int { return &s.Kids[i] }, most)
	}
}

// 19.2: kids that cannot be finished, gates that cannot choose, and outs that there are not.
func TestNone(t *testing.T) {
	w := linked("1333w4442", ">0 0-1 0-2 0-3 1-4 1-5 4-5 2-6 2-6 3-7 3-7 3-7 5-8 6-8 7-8 8>")
	s, err := dead.Start(w)
	wantState(t, w, s, err, "tttt oooooooooooo", "drrrwwwww")
	wantRunning(t, w, s, false, 1, 2, 3)
	wantNotFinished(t, w, s, api.ErrNone, 0, 1, 2, 3, 4, 5, 8, 9, 63, 64, -1, math.MinInt, math.MaxInt)
	for _, kid := range []int{0, 4, 5, 8, 9, 64, -1, math.MinInt, math.MaxInt} {
		for _, out := range []int{0, 1, -1, 99} {
			to, err := dead.Choose(w, s, kid, out)
			wantNone(t, to, err, api.ErrNone)
		}
	}
	for kid, outs := range []int{1: 2, 2: 2, 3: 3} {
		for _, out := range []int{outs, outs + 1, 40, 64, -1, math.MinInt, math.MaxInt} {
			if outs > 0 {
				to, err := dead.Choose(w, s, kid, out)
				wantNone(t, to, err, api.ErrArg)
			}
		}
	}
	s, err = dead.Choose(w, s, 3, 2)
	wantState(t, w, s, err, "tttt ooo oo ggt oot o", "drrdwwwdw")
	s, err = dead.Choose(w, s, 1, 0)
	wantState(t, w, s, err, "tttt tgo oo ggt oot o", "ddrdrwwdw")
	to, err := dead.Choose(w, s, 4, 0)
	wantNone(t, to, err, api.ErrNone)
	s, err = dead.Finish(w, s, 4)
	wantState(t, w, s, err, "tttt tgt oo ggt tot o", "ddrdddwdw")
	wantNotFinished(t, w, s, api.ErrNone, 4)
	to, err = dead.Choose(w, s, 1, 0)
	wantNone(t, to, err, api.ErrNone)
	s, err = dead.Choose(w, s, 2, 0)
	wantState(t, w, s, err, "tttt tgt tg ggt ttt t", "ddddddddd")
	wantRunning(t, w, s, true)
}

// 19.2: in a state that no run comes to any gate may run: it chooses all the same, and is never finished.
func TestAnyGate(t *testing.T) {
	w := linked("1ww2", ">0 0-1 0-2 1-3 2-3 3>")
	s, err := dead.Choose(w, state("tooooo", "rwww"), 0, 1)
	wantState(t, w, s, err, "tgtgoo", "dsrw")
	s, err = dead.Choose(w, state("tttooo", "drrr"), 3, 0)
	wantState(t, w, s, err, "tttoot", "drrd")
	wantRunning(t, w, s, true, 1, 2)
	to, err := dead.Choose(w, state("tttooo", "drrr"), 3, 1)
	wantNone(t, to, err, api.ErrArg)
	wantNotFinished(t, w, state("tttooo", "rrrr"), api.ErrNone, 0, 3)
	// A state in which a link is closed already is settled, and its links are what the kid tells.
	s, err = dead.Finish(w, state("ttgggg", "drrw"), 1)
	wantState(t, w, s, err, "ttgtgg", "ddrs")
}

// row is a Web of so many kids, one behind the other.
func row(kids int) bpel.Act {
	w := bpel.Act{Kind: bpel.Web, Links: []bpel.Link{{From: kids - 1, To: -1}}}
	for i := range kids {
		w.Kids = append(w.Kids, bpel.Act{Kind: bpel.Empty})
		w.Links = append(w.Links, bpel.Link{From: i - 1, To: i})
	}
	return w
}

// 19.1, 19.2, 19.3: as many links as there may be.
func TestMost(t *testing.T) {
	w := row(api.MaxFlows - 1)
	s, err := dead.Start(w)
	for i := range w.Kids {
		if err != api.OK || s.Kids[i] != dead.Runs || s.Links[i+1] != dead.Taken || dead.Over(w, s) {
			t.Fatalf("%d: %s, %v", i, shown(w, s), err)
		}
		s, err = dead.Finish(w, s, i)
	}
	if err != api.OK || !dead.Over(w, s) || s.Kids[38] != dead.Done || s.Kids[39] != 0 {
		t.Errorf("%s, %v", shown(w, s), err)
	}
	wide := strings.Repeat(" 0-1", 38)
	w = linked("32", ">0"+wide+" 1>")
	s, _ = dead.Start(w)
	s, err = dead.Choose(w, s, 0, 37)
	wantState(t, w, s, err, "t"+strings.Repeat("g", 37)+"tg", "ds")
	w = linked("34", ">0"+wide+" 1>")
	s, err = dead.Choose(w, state("t", "r"), 0, 20)
	wantState(t, w, s, err, "t"+strings.Repeat("g", 20)+"t"+strings.Repeat("g", 17)+"t", "dd")
}

// R3, R6: what is handed in stays as it is, and the same call tells the same.
func TestMemory(t *testing.T) {
	w := linked("3ww4", ">0 0-1 0-2 1-3 2-3 3>")
	was := linked("3ww4", ">0 0-1 0-2 1-3 2-3 3>")
	s := state("tttooo", "drrw")
	first := dead.Running(w, s)
	clear(first[:cap(first)])
	for range 2 {
		if l := dead.Running(w, s); !slices.Equal(l, []int{1, 2}) {
			t.Errorf("Running: %v", l)
		}
		a, _ := dead.Finish(w, s, 1)
		wantState(t, w, a, api.OK, "ttttoo", "ddrw")
		b, _ := dead.Choose(w, state("tooooo", "rwww"), 0, 1)
		wantState(t, w, b, api.OK, "tgtgoo", "dsrw")
	}
	if !reflect.DeepEqual(w, was) {
		t.Errorf("%v", w)
	}
}

// P3: calls end at anything.
func TestEnds(t *testing.T) {
	kids := make([]bpel.Act, 2)
	links := []bpel.Link{{From: -1, To: 0}, {From: 0, To: 1}, {From: 1, To: -1}}
	for i := range kids {
		kids[i] = bpel.Act{Kind: bpel.Web, Kids: kids, Links: links}
	}
	terms := make([]api.Term, 2)
	terms[0], terms[1] = api.Term{Op: api.OpAdd, Kids: terms}, api.Term{Op: api.OpAdd, Kids: terms}
	inside := linked("w", ">0 0>")
	inside.Kids[0] = bpel.Act{Kind: bpel.Assign, Term: terms[0]}
	far := linked("w", ">0 0>")
	far.Links[0].To, far.Links[1].From = math.MaxInt, math.MinInt
	for _, w := range []bpel.Act{kids[0], inside, far} {
		s, err := dead.Start(w)
		wantNone(t, s, err, api.ErrForm)
		s, err = dead.Finish(w, dead.State{}, 0)
		wantNone(t, s, err, api.ErrForm)
		s, err = dead.Choose(w, dead.State{}, 0, 0)
		wantNone(t, s, err, api.ErrForm)
		if dead.Check(w, dead.State{}) != api.ErrForm || len(dead.Running(w, dead.State{})) > 0 || dead.Over(w, dead.State{}) {
			t.Errorf("%v", w.Kind)
		}
	}
}
