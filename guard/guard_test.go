package guard_test

import (
	"fmt"
	"math"
	"reflect"
	"slices"
	"strings"
	"testing"

	"treenail/api"
	"treenail/bpel"
	"treenail/guard"
	"treenail/life"
	"treenail/page"
	"treenail/token"
)

// read is the program of an element of layer 17.
func read(t *testing.T, s string) bpel.Act {
	t.Helper()
	a, at, err := page.Read(s)
	if err != api.OK {
		t.Fatalf("%s: %v at %d", s, err, at)
	}
	return a
}

func wait(node int) bpel.Act { return bpel.Act{Kind: bpel.Wait, Node: node} }

func empty() bpel.Act { return bpel.Act{Kind: bpel.Empty} }

// divide is an assignment that divides by the variable 0.
func divide(node int) bpel.Act {
	x := api.Term{Op: api.OpDiv, Kids: []api.Term{{Op: api.OpNum, N: 7}, {Op: api.OpVar}}}
	return bpel.Act{Kind: bpel.Assign, Node: node, A: 1, Term: x}
}

func catches(l ...guard.Handler) []guard.Handler { return l }

// caught is a program whose fault at the node 1 has others go on.
func caught(l ...guard.Handler) guard.Program {
	return guard.Program{Main: divide(1), Catch: l}
}

// in is a state whose items are letters: i is Idle, a Active, o Over, c Chosen, k Asks.
func in(phase int, items string) guard.State {
	s := guard.State{Phase: phase}
	for i, letter := range items {
		s.Life.Status[i] = strings.IndexRune("iaock", letter)
	}
	return s
}

// vars is a state in which variables have values.
func vars(s guard.State, values ...int) guard.State {
	copy(s.Life.Vars[:], values)
	return s
}

// waiting is a state in which messages wait.
func waiting(s guard.State, queue ...int) guard.State {
	copy(s.Life.Queue[:], queue)
	return s
}

func mode(s guard.State, m int) guard.State {
	s.Life.Mode = m
	return s
}

// text is a state without what is 0.
func text(s guard.State) string {
	items := ""
	for _, status := range s.Life.Status {
		items += "iaock"[status : status+1]
	}
	return fmt.Sprint(s.Phase, strings.TrimRight(items, "i"), s.Life.Vars, s.Life.Queue, s.Life.Mode)
}

// then is a move, and what it leads to.
type then struct {
	move guard.Move
	to   guard.State
}

func move(item, arg, kind, node, with int) guard.Move {
	return guard.Move{Item: item, Arg: arg, Label: api.Label{Kind: kind, Node: node, Arg: with}}
}

func arrives(m int, to guard.State) then { return then{move(-1, m, api.Arrived, 0, m), to} }

// wantMoves holds Moves and Do against what is wanted, move by move.
func wantMoves(t *testing.T, p guard.Program, s guard.State, want ...then) {
	t.Helper()
	if err := guard.CheckState(p, s); err != api.OK {
		t.Fatalf("CheckState of %s: %v", text(s), err)
	}
	var moves []guard.Move
	for _, w := range want {
		moves = append(moves, w.move)
	}
	if l := guard.Moves(p, s); !slices.Equal(l, moves) {
		t.Errorf("Moves of %s: %v; want %v", text(s), l, moves)
		return
	}
	for i, w := range want {
		if x, label, err := guard.Do(p, s, i); x != w.to || label != w.move.Label || err != api.OK {
			t.Errorf("Do %d of %s: %s, %v, %v; want %s, %v", i, text(s), text(x), label, err, text(w.to), w.move.Label)
		}
	}
	for _, i := range []int{-1, len(want), len(want) + 1, math.MinInt, math.MaxInt} {
		wantNotDone(t, p, s, i, api.ErrNone)
	}
}

func wantNotDone(t *testing.T, p guard.Program, s guard.State, i int, want api.Errno) {
	t.Helper()
	if x, label, err := guard.Do(p, s, i); x != (guard.State{}) || label != (api.Label{}) || err != want {
		t.Errorf("Do %d: %v, %v; want %v", i, label, err, want)
	}
}

// wantWrong is that a program, or a state of it, is none.
func wantWrong(t *testing.T, p guard.Program, s guard.State, want api.Errno) {
	t.Helper()
	if err := guard.CheckState(p, s); err != want {
		t.Errorf("CheckState: %v; want %v", err, want)
	}
	if l := guard.Moves(p, s); len(l) > 0 {
		t.Errorf("Moves: %v; want none", l)
	}
	wantNotDone(t, p, s, 0, want)
	wantNotDone(t, p, s, -1, want)
}

func wantStart(t *testing.T, p guard.Program, want guard.State) {
	t.Helper()
	if s, err := guard.Start(p); s != want || err != api.OK {
		t.Errorf("Start: %s, %v; want %s", text(s), err, text(want))
	}
}

// wantCheck is that a program is right, or is none wherever it is asked.
func wantCheck(t *testing.T, what string, p guard.Program, want api.Errno) {
	t.Helper()
	if err := guard.Check(p); err != want {
		t.Errorf("Check of %s: %v; want %v", what, err, want)
	}
	if want == api.OK {
		return
	}
	if s, err := guard.Start(p); s != (guard.State{}) || err != want {
		t.Errorf("Start of %s: %v; want %v", what, err, want)
	}
	if s, err := guard.Write(p); s != "" || err != want {
		t.Errorf("Write of %s: %.80q, %v; want %v", what, s, err, want)
	}
	for _, s := range []guard.State{{}, in(0, "a"), {Phase: -1}, {Phase: 99}, mode(guard.State{}, 9)} {
		wantWrong(t, p, s, want)
	}
}

// 30: the chapter's example.
func TestExample(t *testing.T) {
	p := guard.Program{Main: read(t, `<assign node="1" var="0" value="(div 1 0)"/>`), Catch: catches(guard.Handler{Code: 41, Act: wait(5)})}
	wantStart(t, p, in(0, "a"))
	wantMoves(t, p, in(0, "a"), then{move(0, 0, api.Faulted, 1, 41), in(1, "a")})
	wantMoves(t, p, in(1, "a"), then{move(0, 0, api.Rang, 5, 0), in(1, "o")})
	wantMoves(t, p, in(1, "o"), then{move(0, 0, api.Finished, 0, 0), mode(in(1, "o"), token.Ended)})
	wantMoves(t, p, mode(in(1, "o"), token.Ended))
}

// wrongs are activities that are no programs, by their errors.
func wrongs() map[api.Errno]bpel.Act {
	return map[api.Errno]bpel.Act{
		api.ErrForm: {Kind: bpel.Gate, Node: 20, A: 1},
		api.ErrLong: {Kind: bpel.Flow, Kids: slices.Repeat([]bpel.Act{empty()}, bpel.Most)},
		api.ErrSame: {Kind: bpel.Flow, Kids: []bpel.Act{wait(20), wait(20)}},
	}
}

// 30.1: bpel.Check's error, of Main first, then of the Catches in their order, ahead of all others.
func TestPrograms(t *testing.T) {
	wantCheck(t, "Main alone", guard.Program{Main: wait(1)}, api.OK)
	wantCheck(t, "no Catch", guard.Program{Main: wait(1), Catch: catches()}, api.OK)
	wantCheck(t, "nothing", guard.Program{}, api.ErrForm)
	for want, a := range wrongs() {
		for other, b := range wrongs() {
			what := fmt.Sprint(want, " and ", other)
			wantCheck(t, what, guard.Program{Main: a, Catch: catches(guard.Handler{Act: b})}, want)
			wantCheck(t, what, guard.Program{Main: wait(1), Catch: catches(guard.Handler{Act: a}, guard.Handler{Code: 41, Act: b})}, want)
			wantCheck(t, what, guard.Program{Main: wait(1), Catch: catches(guard.Handler{Act: wait(1)}, guard.Handler{Act: wait(1)}, guard.Handler{Code: 99, Act: a}, guard.Handler{Act: b})}, want)
		}
		many := slices.Repeat(catches(guard.Handler{Act: wait(1)}), 20)
		many[19].Act = a
		wantCheck(t, fmt.Sprint(want, ", the last of many"), guard.Program{Main: wait(1), Catch: many}, want)
	}
}

// 30.1: ErrFull, ErrArg and ErrSame, in this order.
func TestCatches(t *testing.T) {
	anyOf := func(codes ...int) guard.Program {
		p := guard.Program{Main: wait(23)}
		for i, c := range codes {
			p.Catch = append(p.Catch, guard.Handler{Code: c, Act: wait(i)})
		}
		return p
	}
	for _, codes := range [][]int{{}, {0}, {40}, {41}, {0, 40}, {41, 0}, {41, 40}, {40, 41, 0}, {0, 41, 40}} {
		wantCheck(t, fmt.Sprint(codes), anyOf(codes...), api.OK)
	}
	for _, codes := range [][]int{{0, 0}, {40, 40}, {41, 41}, {0, 40, 0}, {40, 41, 41}, {41, 40, 0, 41}, {0, 0, 0, 0, 0, 0, 0, 0}, {0, 40, 41, 0, 40, 41, 0, 40}} {
		wantCheck(t, fmt.Sprint(codes), anyOf(codes...), api.ErrSame)
	}
	for _, c := range []int{-1, 1, 2, 8, 30, 39, 42, 99, -40, math.MinInt, math.MaxInt} {
		wantCheck(t, fmt.Sprint(c), anyOf(c), api.ErrArg)
		wantCheck(t, fmt.Sprint(c, " behind others"), anyOf(0, 0, 40, 41, 41, c), api.ErrArg)
		wantCheck(t, fmt.Sprint(c, " ahead of others"), anyOf(c, c, 0, 0, 40, 41, 40, 41), api.ErrArg)
		wantCheck(t, fmt.Sprint(c, ", too many"), anyOf(c, 0, 0, 0, 0, 0, 0, 0, 0), api.ErrFull)
	}
	wantCheck(t, "9", anyOf(0, 40, 41, 0, 0, 0, 0, 0, 0), api.ErrFull)
	wantCheck(t, "many", guard.Program{Main: wait(1), Catch: slices.Repeat(catches(guard.Handler{Code: 7, Act: wait(1)}), 1000)}, api.ErrFull)
}

const choice = `<if node="3" else="1" c0="(eq $0 0)"><invoke node="4" var="0"/><wait node="5"/></if>`

const pick = `<pick node="6"><on node="7"><empty/></on><on node="8" message="1"><wait node="9"/></on></pick>`

const loop = `<loop node="10" else="0" leaves="1" c1="(eq $0 1)"><receive node="11" message="3"/><assign node="12" var="0" value="1"/></loop>`

const web = `<web><gate node="13" kind="1"/><wait node="14"/><gate node="15" kind="2"/><link to="0"/><link from="0" to="1"/><link from="0" to="2"/><link from="1" to="2"/><link from="2"/></web>`

const rules = `<rules><process><start/><event/><catch message="2"/><catch/><xor/><assign var="1" value="(div 7 $0)"/><end/><flow from="0" to="1"/><flow from="1" to="2"/><flow from="1" to="3"/><flow from="2" to="4"/><flow from="3" to="4"/><flow from="4" to="5"/><flow from="5" to="6"/></process></rules>`

// 30.1: ErrSame, if a node stands in two programs, whatever has it; in Rules all of the process stand.
func TestNodes(t *testing.T) {
	has := map[string][]int{choice: {3, 4, 5}, pick: {6, 7, 8, 9}, loop: {10, 11, 12}, web: {13, 14, 15}, rules: {0, 1, 2, 3, 4, 5, 6}, `<sequence>` + choice + pick + `</sequence>`: {3, 4, 5, 6, 7, 8, 9}, "<flow><empty/><empty/></flow>": nil}
	for s, nodes := range has {
		for i := range api.MaxNodes {
			want := api.OK
			if slices.Contains(nodes, i) {
				want = api.ErrSame
			}
			for _, other := range []bpel.Act{wait(i), {Kind: bpel.Sequence, Kids: []bpel.Act{empty(), wait(i)}}} {
				wantCheck(t, fmt.Sprint(s, i), guard.Program{Main: read(t, s), Catch: catches(guard.Handler{Act: other})}, want)
				wantCheck(t, fmt.Sprint(i, s), guard.Program{Main: other, Catch: catches(guard.Handler{Act: read(t, s)})}, want)
				wantCheck(t, fmt.Sprint(i, s), guard.Program{Main: empty(), Catch: catches(guard.Handler{Act: read(t, s)}, guard.Handler{Code: 40, Act: empty()}, guard.Handler{Code: 41, Act: other})}, want)
			}
		}
		for other, more := range has {
			want := api.OK
			for _, i := range nodes {
				if slices.Contains(more, i) {
					want = api.ErrSame
				}
			}
			wantCheck(t, s+other, guard.Program{Main: read(t, s), Catch: catches(guard.Handler{Act: read(t, other)})}, want)
		}
	}
}

// 30.1: which Catch an errno meets: the first one whose Code is it, or 0.
func TestWhich(t *testing.T) {
	for _, c := range []struct {
		codes            []int
		over, zero, none int
	}{
		{nil, -1, -1, -1}, {[]int{0}, 0, 0, 0}, {[]int{40}, 0, -1, -1}, {[]int{41}, -1, 0, -1}, {[]int{40, 41}, 0, 1, -1}, {[]int{41, 40}, 1, 0, -1},
		{[]int{0, 40, 41}, 0, 0, 0}, {[]int{40, 0, 41}, 0, 1, 1}, {[]int{41, 0, 40}, 1, 0, 1}, {[]int{41, 40, 0}, 1, 0, 2}, {[]int{40, 40, 0}, 0, 2, 2},
	} {
		var p guard.Program
		for _, code := range c.codes {
			p.Catch = append(p.Catch, guard.Handler{Code: code})
		}
		over, zero := guard.Which(p, int(api.ErrOver)), guard.Which(p, int(api.ErrZero))
		if over != c.over || zero != c.zero {
			t.Errorf("Which of %v: %d, %d; want %d, %d", c.codes, over, zero, c.over, c.zero)
		}
		for _, errno := range []int{0, 1, 7, 39, 42, -1, math.MinInt, math.MaxInt} {
			if i := guard.Which(p, errno); i != c.none {
				t.Errorf("Which of %v, %d: %d; want %d", c.codes, errno, i, c.none)
			}
		}
	}
}

// 30.2: a fault that is met has its Catch go on with the values and the messages that there were; one that none meets ends all.
func TestFault(t *testing.T) {
	over := read(t, `<assign node="2" var="0" value="(add $0 1)"/>`)
	p := guard.Program{Main: bpel.Act{Kind: bpel.Flow, Kids: []bpel.Act{divide(1), over}}, Catch: catches(
		guard.Handler{Code: 41, Act: bpel.Act{Kind: bpel.Sequence, Kids: []bpel.Act{empty(), wait(3)}}}, guard.Handler{Code: 40, Act: empty()})}
	wantStart(t, p, in(0, "aaa"))
	few := vars(waiting(in(0, "aaa"), 1, 2, 3, 0), 0, 5, 6, 7)
	wantMoves(t, p, few,
		then{move(1, 0, api.Faulted, 1, 41), vars(waiting(in(1, "aoa"), 1, 2, 3, 0), 0, 5, 6, 7)},
		then{move(2, 0, api.Set, 2, 0), vars(waiting(in(0, "aao"), 1, 2, 3, 0), 1, 5, 6, 7)})
	much := vars(waiting(in(0, "aaa"), 3), api.MaxInt, 1)
	wantMoves(t, p, much,
		then{move(1, 0, api.Set, 1, 0), vars(waiting(in(0, "aoa"), 3), api.MaxInt, 0)},
		then{move(2, 0, api.Faulted, 2, 40), vars(waiting(in(2, "o"), 3), api.MaxInt, 1)})
	wantMoves(t, p, vars(in(2, "o"), 1, 2), then{move(0, 0, api.Finished, 0, 0), vars(mode(in(2, "o"), token.Ended), 1, 2)})
	// With fewer of its Catches, or other ones.
	for _, c := range []struct {
		codes          []int
		zeroTo, overTo int
	}{{nil, 0, 0}, {[]int{40}, 0, 1}, {[]int{41}, 1, 0}, {[]int{0}, 1, 1}, {[]int{0, 41}, 1, 1}, {[]int{41, 0}, 1, 2}, {[]int{40, 0, 41}, 2, 1}} {
		q := guard.Program{Main: p.Main}
		for i, code := range c.codes {
			q.Catch = append(q.Catch, guard.Handler{Code: code, Act: wait(4 + i)})
		}
		to := func(from guard.State, phase int) guard.State {
			if phase == 0 {
				return mode(from, token.Broken)
			}
			s := in(phase, "a")
			s.Life.Vars, s.Life.Queue = from.Life.Vars, from.Life.Queue
			return s
		}
		if s, label, err := guard.Do(q, few, 0); s != to(few, c.zeroTo) || label != (api.Label{Kind: api.Faulted, Node: 1, Arg: 41}) || err != api.OK {
			t.Errorf("Catches of %v: %s, %v, %v", c.codes, text(s), label, err)
		}
		if s, label, err := guard.Do(q, much, 1); s != to(much, c.overTo) || label != (api.Label{Kind: api.Faulted, Node: 2, Arg: 40}) || err != api.OK {
			t.Errorf("Catches of %v: %s, %v, %v", c.codes, text(s), label, err)
		}
	}
}

// 30.2: a fault in another Phase ends all, even if a Catch has its Code.
func TestFaultOfCatch(t *testing.T) {
	p := caught(guard.Handler{Code: 41, Act: divide(2)}, guard.Handler{Act: wait(3)})
	wantMoves(t, p, in(0, "a"), then{move(0, 0, api.Faulted, 1, 41), in(1, "a")})
	wantMoves(t, p, in(1, "a"), then{move(0, 0, api.Faulted, 2, 41), mode(in(1, "a"), token.Broken)})
	wantMoves(t, p, mode(in(1, "a"), token.Broken))
	wantMoves(t, p, mode(in(0, "a"), token.Broken))
	wantMoves(t, p, vars(in(1, "a"), 7), then{move(0, 0, api.Set, 2, 0), vars(in(1, "o"), 7, 1)})
}

// 30.2: faults of choices, loops, gates and rules are caught, too; their labels and items are as they were.
func TestFaults(t *testing.T) {
	const fault = `(eq (div 1 $0) 1)`
	for _, s := range []string{
		`<if node="1" else="1" c0="` + fault + `"><empty/><empty/></if>`,
		`<loop node="1" else="1" leaves="1" c0="` + fault + `"><empty/><empty/></loop>`,
		`<web><gate node="1" kind="3" else="1" c0="` + fault + `"/><gate node="2" kind="4"/><link to="0"/><link from="0" to="1"/><link from="0" to="1"/><link from="1"/></web>`,
		`<rules><process><start/><assign var="1" value="(div 1 $0)"/><end/><flow from="0" to="1"/><flow from="1" to="2"/></process></rules>`,
	} {
		p := guard.Program{Main: read(t, s), Catch: catches(guard.Handler{Code: 41, Act: wait(5)})}
		x, err := guard.Start(p)
		if a, _ := life.Start(p.Main); x.Life != a || x.Phase != 0 || err != api.OK {
			t.Errorf("Start of %s: %s, %v", s, text(x), err)
		}
		x = vars(waiting(x, 1, 1, 1, 1), 0, 3)
		was := guard.Move(life.Moves(p.Main, x.Life)[0])
		if was.Label != (api.Label{Kind: api.Faulted, Node: 1, Arg: 41}) {
			t.Errorf("%s: %v", s, was)
		}
		wantMoves(t, p, x, then{was, vars(waiting(in(1, "a"), 1, 1, 1, 1), 0, 3)})
	}
}

// 30.2: messages arrive that any of the programs awaits, whichever runs, as long as there is room, behind all other moves.
func TestArrivals(t *testing.T) {
	p := guard.Program{Main: read(t, `<sequence><receive node="1" message="2"/><assign node="2" var="1" value="(div 7 $0)"/></sequence>`), Catch: catches(
		guard.Handler{Code: 41, Act: read(t, `<receive node="3" message="0"/>`)}, guard.Handler{Code: 40, Act: read(t, `<pick node="4"><on node="5" message="3"><empty/></on><on node="6"><empty/></on></pick>`)})}
	wantStart(t, p, in(0, "aai"))
	wantMoves(t, p, in(0, "aai"), arrives(0, waiting(in(0, "aai"), 1)), arrives(2, waiting(in(0, "aai"), 0, 0, 1)), arrives(3, waiting(in(0, "aai"), 0, 0, 0, 1)))
	wantMoves(t, p, waiting(in(0, "aai"), 3, 0, 1, 2), then{move(1, 0, api.Got, 1, 0), waiting(in(0, "aoa"), 3, 0, 0, 2)},
		arrives(2, waiting(in(0, "aai"), 3, 0, 2, 2)), arrives(3, waiting(in(0, "aai"), 3, 0, 1, 3)))
	wantMoves(t, p, waiting(in(0, "aoa"), 3, 3, 3, 3), then{move(2, 0, api.Faulted, 2, 41), waiting(in(1, "a"), 3, 3, 3, 3)})
	wantMoves(t, p, waiting(in(1, "a"), 3, 3, 2, 3), then{move(0, 0, api.Got, 3, 0), waiting(in(1, "o"), 2, 3, 2, 3)}, arrives(2, waiting(in(1, "a"), 3, 3, 3, 3)))
	wantMoves(t, p, waiting(in(1, "o"), 2, 0, 3, 3), then{move(0, 0, api.Finished, 0, 0), waiting(mode(in(1, "o"), token.Ended), 2, 0, 3, 3)}, arrives(0, waiting(in(1, "o"), 3, 0, 3, 3)))
	wantMoves(t, p, mode(in(1, "o"), token.Ended))
	wantMoves(t, p, mode(in(0, "aoa"), token.Broken))
	wantMoves(t, p, waiting(in(2, "aiiii"), 3, 0, 3, 1), then{move(0, 0, api.Got, 5, 0), waiting(in(2, "ooo"), 3, 0, 3, 0)},
		then{move(0, 1, api.Rang, 6, 0), waiting(in(2, "oiioo"), 3, 0, 3, 1)}, arrives(3, waiting(in(2, "aiiii"), 3, 0, 3, 2)))
	// A process of Rules awaits some as well.
	p = guard.Program{Main: empty(), Catch: catches(guard.Handler{Act: read(t, rules)})}
	wantMoves(t, p, in(0, "o"), then{move(0, 0, api.Finished, 0, 0), mode(in(0, "o"), token.Ended)}, arrives(2, waiting(in(0, "o"), 0, 0, 1)))
}

// 30.2: Rules as Main, and as what goes on.
func TestRules(t *testing.T) {
	p := guard.Program{Main: read(t, rules), Catch: catches(guard.Handler{Code: 41, Act: read(t, `<receive node="20" message="2"/>`)})}
	flow := func(phase, f int) guard.State {
		s := in(phase, "a")
		s.Life.Tokens[f] = 1
		return s
	}
	wantStart(t, p, flow(0, 0))
	s := waiting(flow(0, 0), 0, 0, 2)
	wantMoves(t, p, s, then{move(0, 0, api.Got, 2, 0), waiting(flow(0, 3), 0, 0, 1)}, then{move(0, 1, api.Rang, 3, 0), waiting(flow(0, 4), 0, 0, 2)}, arrives(2, waiting(flow(0, 0), 0, 0, 3)))
	wantMoves(t, p, waiting(flow(0, 5), 0, 0, 3), then{move(0, 0, api.Faulted, 5, 41), waiting(in(1, "a"), 0, 0, 3)})
	wantMoves(t, p, vars(waiting(flow(0, 5), 0, 0, 3), 7), then{move(0, 0, api.Set, 5, 0), vars(waiting(flow(0, 6), 0, 0, 3), 7, 1)})
	p = guard.Program{Main: divide(20), Catch: catches(guard.Handler{Act: read(t, rules)})}
	wantMoves(t, p, waiting(in(0, "a"), 0, 0, 3), then{move(0, 0, api.Faulted, 20, 41), waiting(flow(1, 0), 0, 0, 3)})
}

// 30.2: what is no state: of no Phase, or none of the Phase's program.
func TestStates(t *testing.T) {
	p := caught(guard.Handler{Code: 40, Act: wait(2)}, guard.Handler{Code: 41, Act: read(t, choice)})
	for phase, items := range []string{"a", "a", "aii"} {
		if err := guard.CheckState(p, in(phase, items)); err != api.OK {
			t.Errorf("Phase %d: %v", phase, err)
		}
		wantWrong(t, p, in(phase, items+"a"), api.ErrArg)
		for _, change := range []func(s *life.State){
			func(s *life.State) { s.Status[0] = 5 }, func(s *life.State) { s.Status[0] = -1 }, func(s *life.State) { s.Mode = 3 }, func(s *life.State) { s.Mode = -1 },
			func(s *life.State) { s.Vars[3] = api.MaxInt + 1 }, func(s *life.State) { s.Queue[1] = 4 }, func(s *life.State) { s.Tokens[0] = 1 }, func(s *life.State) { s.Web.Kids[0] = 1 },
		} {
			s := in(phase, items)
			change(&s.Life)
			wantWrong(t, p, s, api.ErrArg)
		}
	}
	for _, phase := range []int{-1, 3, 4, math.MinInt, math.MaxInt} {
		wantWrong(t, p, in(phase, "a"), api.ErrArg)
	}
	if err := guard.CheckState(guard.Program{Main: wait(1)}, in(1, "a")); err != api.ErrArg {
		t.Errorf("Phase 1 of no Catch: %v", err)
	}
}

// room is a program whose list has spare room, in which something stands.
func room(p guard.Program) guard.Program {
	p.Catch = append(slices.Clone(p.Catch), guard.Handler{Code: 77})[:len(p.Catch)]
	return p
}

// R3, R6: what is handed in stays as it is, and the same call tells the same.
func TestMemory(t *testing.T) {
	make := func() guard.Program {
		return room(guard.Program{Main: read(t, `<flow>`+loop+`<assign node="0" var="1" value="(div 1 $0)"/></flow>`), Catch: catches(guard.Handler{Code: 41, Act: read(t, choice)}, guard.Handler{Act: read(t, pick)})})
	}
	p := make()
	s, _ := guard.Start(p)
	first := guard.Moves(p, s)
	wanted := slices.Clone(first)
	clear(first[:cap(first)])
	second := guard.Moves(p, s)
	if !slices.Equal(second, wanted) || len(second) != 3 {
		t.Errorf("%v; want %v", second, wanted)
	}
	for i := range second {
		x, label, err := guard.Do(p, s, i)
		if y, again, other := guard.Do(p, s, i); x != y || label != again || err != other {
			t.Errorf("%s, %s", text(x), text(y))
		}
	}
	written, err := guard.Write(p)
	if again, other := guard.Write(p); again != written || err != api.OK || other != err {
		t.Errorf("%s, %v; %s, %v", written, err, again, other)
	}
	guard.Which(p, 40)
	if !reflect.DeepEqual(p, make()) || p.Catch[:3][2].Code != 77 {
		t.Error("a program has changed")
	}
	q, _, _ := guard.Read(written)
	_ = append(q.Catch, guard.Handler{Code: 5})
	q.Catch[0].Act.Kids[0].Node, q.Main.Kids[0].Conds[1].Kids[0].N = 17, 3
	if again, _, _ := guard.Read(written); !reflect.DeepEqual(again.Main, p.Main) || !reflect.DeepEqual(again.Catch, p.Catch) {
		t.Errorf("Read: %v", again)
	}
}

// P3: calls end at anything.
func TestEnds(t *testing.T) {
	kids := make([]bpel.Act, 2)
	terms := make([]api.Term, 2)
	for i := range kids {
		kids[i] = bpel.Act{Kind: bpel.Flow, Kids: kids}
		terms[i] = api.Term{Op: api.OpAdd, Kids: terms}
	}
	for want, a := range map[api.Errno]bpel.Act{api.ErrLong: kids[0], api.ErrForm: {Kind: bpel.Assign, Term: terms[0]}} {
		wantCheck(t, "in itself", guard.Program{Main: a}, want)
		wantCheck(t, "in itself", caught(guard.Handler{Act: a}), want)
		wantCheck(t, "in itself", caught(slices.Repeat(catches(guard.Handler{Code: math.MinInt, Act: a}), 10000)...), want)
	}
	wantCheck(t, "many", caught(slices.Repeat(catches(guard.Handler{Code: math.MinInt, Act: wait(1)}), 10000)...), api.ErrFull)
	for _, n := range []int{-1, 1, math.MinInt, math.MaxInt} {
		s := guard.State{Phase: n, Life: life.State{Mode: n}}
		for i := range s.Life.Status {
			s.Life.Status[i] = n
		}
		wantWrong(t, caught(), s, api.ErrArg)
	}
}
