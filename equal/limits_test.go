package equal_test

import (
	"fmt"
	"testing"

	"treenail/api"
	"treenail/bpel"
	"treenail/hold"
	"treenail/life"
	"treenail/sample"
	"treenail/trail"
)

// burst is a Flow of so many choices between nothing and nothing: its cloud has two states of each of them, and one more when it is over.
func burst(many int) string {
	s := "<flow>"
	for i := range many {
		s += fmt.Sprintf(`<if node="%d" else="0" c1="(eq 1 1)"><empty/><empty/></if>`, 10+i)
	}
	return s + "</flow>"
}

// forked is a process of nodes one behind the other, then of a fork of ways with so many choices between nothing and nothing on each.
// A token may be at 3 places of a way with one choice, at 5 of one with two; the program has 2 states of it, or 3.
func forked(ahead string, ways ...int) api.Net {
	fork, choices := len(ahead)+1, 0
	for _, many := range ways {
		choices += many
	}
	nodes, flows, join := "s"+ahead+"n", "", fork+2*choices+1
	for i := range fork {
		flows += fmt.Sprintf("%d-%d ", i, i+1)
	}
	for _, many := range ways {
		last := fork
		for range many {
			split := len(nodes)
			nodes += "xx"
			flows += fmt.Sprintf("%d-%d %d-%d %d-%d ", last, split, split, split+1, split, split+1)
			last = split + 1
		}
		flows += fmt.Sprintf("%d-%d ", last, join)
	}
	return sample.Of(nodes+"ne", flows+fmt.Sprintf("%d-%d", join, join+1))
}

// branched is a process whose first cloud is too great, while that of its program is not.
var branched = forked("", 2, 2, 2, 2, 2)

// 27.1 to 27.3: the first cloud of the process alone, or of the program alone, is too great.
func TestGreat(t *testing.T) {
	n, a, great := sample.Of("ste", "0-1 1-2"), compiled(t, branched), read(t, burst(11))
	if c, err := hold.Begin(a); len(c) == 0 || err != api.OK {
		t.Fatal(len(c), err)
	}
	if c, err := trail.Begin(n); len(c) == 0 || err != api.OK {
		t.Fatal(len(c), err)
	}
	for _, depth := range []int{0, 1, 12} {
		wantWrong(t, branched, a, depth, api.ErrFull)
		wantWrong(t, n, great, depth, api.ErrFull)
	}
	for _, picks := range [][]int{nil, {0}, {7, 7}} {
		wantNoWalk(t, branched, a, picks, api.ErrFull)
		wantNoWalk(t, n, great, picks, api.ErrFull)
	}
	// As great as they may be: these are the same, and those are not.
	n = forked("", 2, 2, 2, 1, 1)
	wantSame(t, n, compiled(t, n), 12, 2)
	wantOther(t, sample.Of("ste", "0-1 1-2"), read(t, burst(10)), 12, 1)
}

// 27.1 to 27.3: clouds on the way are too great, only if a way leads there.
func TestGreatOnTheWay(t *testing.T) {
	// Of the program, behind the result 1.
	n := sample.Of("stce", "0-1 1-2 2-3")
	a := sequence(t, invoke, byResult(`<wait node="2"/>`, burst(11)))
	wantSame(t, n, a, 0, 1)
	wantWalk(t, n, a, nil, true)
	wantWalk(t, n, a, []int{0, 0, 0}, true, did(1, 0), rang(2), finished)
	for _, depth := range []int{1, 2, 12} {
		wantWrong(t, n, a, depth, api.ErrFull)
	}
	wantNoWalk(t, n, a, []int{1}, api.ErrFull)
	wantNoWalk(t, n, a, []int{1, 0, 0}, api.ErrFull)

	// Of the process alone.
	n = forked("t", 2, 2, 2, 2, 1)
	a = compiled(t, n)
	wantSame(t, n, a, 0, 1)
	wantWalk(t, n, a, nil, true)
	wantWrong(t, n, a, 1, api.ErrFull)
	wantNoWalk(t, n, a, []int{1}, api.ErrFull)
	if _, err := hold.After(a, start(t, a), did(1, 1)); err != api.OK {
		t.Fatal(err)
	}
}

// 27.1 to 27.3: behind a pair that differs no cloud is looked at; but First has All's errors, even where a way that comes ahead differs.
func TestGreatBesideOther(t *testing.T) {
	n := sample.Of("stce", "0-1 1-2 2-3")
	a := sequence(t, invoke, byResult(`<wait node="2"/>`, `<sequence><wait node="4"/>`+burst(11)+`</sequence>`))
	wantOther(t, n, a, 12, 5, did(1, 1))
	wantWalk(t, n, a, []int{1, 0, 0}, false, did(1, 1))
	wantOther(t, n, sequence(t, `<wait node="1"/>`, burst(11)), 12, 1)

	a = sequence(t, invoke, byResult("<empty/>", burst(11)))
	wantWrong(t, n, a, 1, api.ErrFull)
	wantWalk(t, n, a, []int{0, 0}, false, did(1, 0))
}

// choosing is a process of nodes one behind the other, then of a task: behind its result 1 come six timers at once, behind 0 a row of nodes.
func choosing(ahead, row string) api.Net {
	task := len(ahead) + 1
	split, join, fork, meet, timers := task+1, task+2, task+3, task+4, task+5
	end := timers + 6 + len(row)
	// The flow of the number 1 is the one that is taken by the result 1.
	flows := fmt.Sprintf("0-1 %d-%d ", split, fork)
	for i := range task {
		flows += fmt.Sprintf("%d-%d ", i+1, i+2)
	}
	for i := range 6 {
		flows += fmt.Sprintf("%d-%d %d-%d ", fork, timers+i, timers+i, meet)
	}
	last := split
	for i := range row {
		flows += fmt.Sprintf("%d-%d ", last, timers+6+i)
		last = timers + 6 + i
	}
	return sample.Of("s"+ahead+"txxnncccccc"+row+"e", flows+fmt.Sprintf("%d-%d %d-%d %d-%d", last, join, meet, join, join, end))
}

// 27.2, 27.3: as many ways as there may be, and one more.
func TestMost(t *testing.T) {
	// Six timers have 1 + 6 + 30 + 120 + 360 + 720 + 720 = 1957 ways of at most six labels, the row has, from its last node on, 3, 4, 9, 19, 20 and 41 of them
	// (one more than behind an assignment, one more than twice those behind a task). With the task that chooses there are 1999, of seven labels.
	const row = "tattat"
	for _, x := range []struct {
		ahead       string
		depth, many int
	}{{"", 7, 1999}, {"a", 8, 2000}, {"", 6, 1999 - 720 - 16}, {"aa", 8, 2001 - 720 - 16}} {
		n := choosing(x.ahead, row)
		wantSame(t, n, compiled(t, n), x.depth, x.many)
	}
	n := choosing("aa", row)
	a := compiled(t, n)
	wantWrong(t, n, a, 9, api.ErrFull)
	wantWrong(t, n, a, 12, api.ErrFull)
	wantWalk(t, n, a, []int{0, 0, 1, 3, 4, 2, 0, 1, 0, 0}, true, set(1), set(2), did(3, 1), rang(11), rang(13), rang(10), rang(8), rang(12), rang(9), finished)

	// First has All's error, even where a way that comes ahead differs.
	a.Kids[3].Kids[1].Kids[0].Node = 23
	wantOther(t, n, a, 4, 11, set(1), set(2), did(3, 0))
	wantWrong(t, n, a, 12, api.ErrFull)
}

// start is the cloud with which a program begins.
func start(t *testing.T, a bpel.Act) []life.State {
	t.Helper()
	c, err := hold.Begin(a)
	if err != api.OK {
		t.Fatal(err)
	}
	return c
}
