package life_test

import (
	"fmt"
	"math"
	"slices"
	"strings"
	"testing"

	"treenail/api"
	"treenail/bpel"
	"treenail/dead"
	"treenail/life"
	"treenail/page"
	"treenail/token"
)

func read(t *testing.T, s string) bpel.Act {
	t.Helper()
	a, at, err := page.Read(s)
	if err != api.OK {
		t.Fatalf("%s: %v at %d", s, err, at)
	}
	return a
}

// in is a state whose items are letters: i is Idle, a Active, o Over, c Chosen, k Asks; then something is changed in it.
func in(items string, changes ...func(s *life.State)) life.State {
	var s life.State
	for i, letter := range items {
		s.Status[i] = strings.IndexRune("iaock", letter)
	}
	for _, change := range changes {
		change(&s)
	}
	return s
}

// text is a state without what is 0.
func text(s life.State) string {
	short := func(l []int) []int {
		for len(l) > 0 && l[len(l)-1] == 0 {
			l = l[:len(l)-1]
		}
		return l
	}
	return fmt.Sprint(short(s.Status[:]), short(s.Web.Links[:]), short(s.Web.Kids[:]), short(s.Tokens[:]), s.Vars, s.Queue, s.Mode)
}

// then is a move, and what is changed by it.
type then struct {
	move   life.Move
	change func(s *life.State)
}

// become is that items are something else, and what else is changed.
func become(items string, changes ...func(s *life.State)) func(s *life.State) {
	return func(s *life.State) {
		s.Status = in(items).Status
		for _, change := range changes {
			change(s)
		}
	}
}

func shown(item, arg, kind, node, with int) life.Move {
	return life.Move{Item: item, Arg: arg, Label: api.Label{Kind: kind, Node: node, Arg: with}}
}

func silent(item, arg int) life.Move { return life.Move{Item: item, Arg: arg} }

func variable(v, value int) func(s *life.State) { return func(s *life.State) { s.Vars[v] = value } }

func waiting(queue ...int) func(s *life.State) {
	return func(s *life.State) { copy(s.Queue[:], queue) }
}

// gone is that a message does not wait any more.
func gone(m int) func(s *life.State) { return func(s *life.State) { s.Queue[m]-- } }

func mode(m int) func(s *life.State) { return func(s *life.State) { s.Mode = m } }

func finished() then { return then{shown(0, 0, api.Finished, 0, 0), mode(token.Ended)} }

func faulted(item, node int, errno api.Errno) then {
	return then{shown(item, 0, api.Faulted, node, int(errno)), mode(token.Broken)}
}

func arrives(m int) then {
	return then{shown(-1, m, api.Arrived, 0, m), func(s *life.State) { s.Queue[m]++ }}
}

// wantMoves holds Moves and Do against what is wanted, move by move.
func wantMoves(t *testing.T, a bpel.Act, s life.State, want ...then) {
	t.Helper()
	if err := life.Check(a, s); err != api.OK {
		t.Fatalf("Check: %v", err)
	}
	var moves []life.Move
	for _, w := range want {
		moves = append(moves, w.move)
	}
	if l := life.Moves(a, s); !slices.Equal(l, moves) {
		t.Errorf("Moves of %s: %v; want %v", text(s), l, moves)
		return
	}
	for i, w := range want {
		to := s
		w.change(&to)
		if x, label, err := life.Do(a, s, i); x != to || label != w.move.Label || err != api.OK {
			t.Errorf("Do %d of %s: %s, %v, %v; want %s, %v", i, text(s), text(x), label, err, text(to), w.move.Label)
		}
	}
	for _, i := range []int{-1, len(want), len(want) + 1, math.MinInt, math.MaxInt} {
		wantNone(t, a, s, i, api.ErrNone)
	}
}

func wantNone(t *testing.T, a bpel.Act, s life.State, i int, want api.Errno) {
	t.Helper()
	if x, label, err := life.Do(a, s, i); x != (life.State{}) || label != (api.Label{}) || err != want {
		t.Errorf("Do %d of %s: %s, %v, %v; want %v", i, text(s), text(x), label, err, want)
	}
}

// wantStart is the first state of a program.
func wantStart(t *testing.T, a bpel.Act, items string, changes ...func(s *life.State)) {
	t.Helper()
	if s, err := life.Start(a); s != in(items, changes...) || err != api.OK {
		t.Errorf("Start: %s, %v; want %s", text(s), err, text(in(items, changes...)))
	}
}

// 20.1, 20.2: the chapter's example.
func TestExample(t *testing.T) {
	a := read(t, `<sequence><invoke node="1" var="0"/><wait node="2"/></sequence>`)
	wantStart(t, a, "aai")
	wantMoves(t, a, in("aai"), then{shown(1, 0, api.Did, 1, 0), become("aoa")}, then{shown(1, 1, api.Did, 1, 1), become("aoa", variable(0, 1))})
	wantMoves(t, a, in("aoa", variable(0, 1)), then{shown(2, 0, api.Rang, 2, 0), become("ooo")})
	wantMoves(t, a, in("ooo", variable(0, 1)), finished())
	wantMoves(t, a, in("ooo", variable(0, 1), mode(token.Ended)))
}

// 20.1, 20.2: activities without kids, alone.
func TestSingle(t *testing.T) {
	a := read(t, "<empty/>")
	wantStart(t, a, "o")
	wantMoves(t, a, in("o"), finished())
	wantMoves(t, a, in("a"))
	wantMoves(t, a, in("i"))

	a = read(t, `<invoke node="7" var="2"/>`)
	sevens := func(s *life.State) { s.Vars = [api.Vars]int{7, 7, 7, 7} }
	did := func(r int) then { return then{shown(0, r, api.Did, 7, r), become("o", variable(2, r))} }
	wantStart(t, a, "a")
	wantMoves(t, a, in("a", sevens), did(0), did(1))
	wantMoves(t, a, in("o", sevens), finished())

	a = read(t, `<wait node="23"/>`)
	wantStart(t, a, "a")
	wantMoves(t, a, in("a", sevens, waiting(3, 3, 3, 3)), then{shown(0, 0, api.Rang, 23, 0), become("o")})
}

// 20.2: only what is Active does something: other items of these kinds have no moves.
func TestOnlyActive(t *testing.T) {
	for _, s := range []string{
		`<invoke node="1" var="0"/>`, `<assign node="1" var="0" value="1"/>`, `<wait node="1"/>`,
		`<if node="1" else="0" c1="(eq 1 1)"><empty/><empty/></if>`, `<pick node="1"><on node="2"><empty/></on><on node="3"><empty/></on></pick>`,
		`<rules><process><start/><end/><flow from="0" to="1"/></process></rules>`,
	} {
		a := read(t, s)
		hold := func(s *life.State) {
			if a.Kind == bpel.Rules {
				s.Tokens[0] = 1
			}
		}
		for _, letter := range []string{"i", "c", "k"} {
			wantMoves(t, a, in(letter, hold))
		}
		if l := life.Moves(a, in("a", hold)); len(l) == 0 {
			t.Errorf("%s: no moves", s)
		}
	}
	a := read(t, `<loop node="1" else="0" leaves="0" c1="(eq 1 1)"><empty/><empty/></loop>`)
	for _, letter := range []string{"i", "a", "c"} {
		wantMoves(t, a, in(letter))
	}
	a = read(t, `<sequence><loop node="1" else="0" leaves="0" c1="(eq 1 1)"><empty/><empty/></loop><empty/></sequence>`)
	for _, letter := range []string{"i", "a", "o", "c"} {
		wantMoves(t, a, in("a"+letter))
	}
	// A Sequence, a Flow, an On and a Web do nothing by themselves.
	for _, s := range []string{"<sequence><empty/><empty/></sequence>", "<flow><empty/><empty/></flow>", `<web><empty/><link to="0"/><link from="0"/></web>`} {
		for _, letter := range []string{"i", "a", "c", "k"} {
			wantMoves(t, read(t, s), in(letter))
		}
		wantMoves(t, read(t, s), in("o"), finished())
	}
	a = read(t, `<pick node="1"><on node="2"><empty/></on><on node="3"><empty/></on></pick>`)
	wantMoves(t, a, in("caiki"))
}

// 20.2: an assignment, and its faults.
func TestAssign(t *testing.T) {
	a := read(t, `<assign node="5" var="1" value="(div (add $0 1) $3)"/>`)
	wantStart(t, a, "a")
	some := func(s *life.State) { s.Vars = [api.Vars]int{6, 9, 0, -2} }
	wantMoves(t, a, in("a", some), then{shown(0, 0, api.Set, 5, 0), become("o", variable(1, -3))})
	wantMoves(t, a, in("a"), faulted(0, 5, api.ErrZero))
	wantMoves(t, a, in("a", variable(0, api.MaxInt)), faulted(0, 5, api.ErrOver))
	wantMoves(t, a, in("a", mode(token.Broken)))
	wantMoves(t, a, in("o", some), finished())
}

// 20.2: a message that waits is got; others arrive, if they are awaited, as long as there is room.
func TestReceive(t *testing.T) {
	a := read(t, `<receive node="4" message="2"/>`)
	wantStart(t, a, "a")
	got := then{shown(0, 0, api.Got, 4, 0), become("o", gone(2))}
	wantMoves(t, a, in("a"), arrives(2))
	wantMoves(t, a, in("a", waiting(1, 2, 0, 3)), arrives(2))
	wantMoves(t, a, in("a", waiting(0, 0, 1)), got, arrives(2))
	wantMoves(t, a, in("a", waiting(3, 3, 2, 3)), got, arrives(2))
	wantMoves(t, a, in("a", waiting(3, 3, 3, 3)), got)
	wantMoves(t, a, in("o", waiting(0, 0, 2)), finished(), arrives(2))
	wantMoves(t, a, in("o", mode(token.Ended)))
	wantMoves(t, a, in("a", waiting(0, 0, 1), mode(token.Broken)))
}

func TestSequence(t *testing.T) {
	a := read(t, `<sequence><empty/><wait node="0"/><empty/><empty/><wait node="1"/><empty/></sequence>`)
	wantStart(t, a, "aoaiiii")
	wantMoves(t, a, in("aoaiiii"), then{shown(2, 0, api.Rang, 0, 0), become("aooooai")})
	wantMoves(t, a, in("aooooai"), then{shown(5, 0, api.Rang, 1, 0), become("ooooooo")})
	wantStart(t, read(t, "<sequence><empty/><empty/><empty/></sequence>"), "oooo")
	wantStart(t, read(t, "<sequence><sequence><empty/><empty/></sequence><sequence><empty/><wait node=\"1\"/></sequence></sequence>"), "aoooaoa")
}

func TestFlow(t *testing.T) {
	a := read(t, `<flow><wait node="0"/><empty/><sequence><wait node="1"/><wait node="2"/></sequence></flow>`)
	wantStart(t, a, "aaoaai")
	first := func(items string) then { return then{shown(1, 0, api.Rang, 0, 0), become(items)} }
	wantMoves(t, a, in("aaoaai"), first("aooaai"), then{shown(4, 0, api.Rang, 1, 0), become("aaoaoa")})
	wantMoves(t, a, in("aaoaoa"), first("aooaoa"), then{shown(5, 0, api.Rang, 2, 0), become("aaoooo")})
	wantMoves(t, a, in("aaoooo"), first("oooooo"))
	wantMoves(t, a, in("aooaoa"), then{shown(5, 0, api.Rang, 2, 0), become("oooooo")})
	wantStart(t, read(t, "<flow><empty/><empty/></flow>"), "ooo")
	wantStart(t, read(t, "<flow><flow><empty/><empty/></flow><empty/></flow>"), "ooooo")
	// A message that two wait for is got by one of them.
	a = read(t, `<flow><receive node="0" message="1"/><receive node="1" message="1"/></flow>`)
	wantMoves(t, a, in("aaa", waiting(0, 1)), then{shown(1, 0, api.Got, 0, 0), become("aoa", gone(1))}, then{shown(2, 0, api.Got, 1, 0), become("aao", gone(1))}, arrives(1))
}

// choices is an If: its first kid if $0 is 1, the second one else, the third one if 1 / $1 is 1, the last one if $2 is 1.
const choices = `<if node="9" else="1" c0="(eq $0 1)" c2="(eq 1 (div 1 $1))" c3="(eq $2 1)"><empty/><wait node="1"/><sequence><empty/><wait node="2"/></sequence><empty/></if>`

// 20.2: the first that is true, the else one, or a fault ahead of a true one.
func TestIf(t *testing.T) {
	a := read(t, choices)
	wantStart(t, a, "a")
	goes := []then{{silent(0, 0), become("oo")}, {silent(0, 1), become("cia")}, {silent(0, 2), become("ciiaoa")}, {silent(0, 3), become("oiiiiio")}}
	zero := faulted(0, 9, api.ErrZero)
	for vars, want := range map[[api.Vars]int]then{
		{1, 1, 1}: goes[0], {0, 1, 1}: goes[2], {0, 5, 1}: goes[3], {0, 5, 0}: goes[1], {1, 0, 1}: goes[0], {0, 0, 1}: zero, {0, 0, 0}: zero,
	} {
		wantMoves(t, a, in("a", func(s *life.State) { s.Vars = vars }), want)
	}
	wantMoves(t, a, in("cia"), then{shown(2, 0, api.Rang, 1, 0), become("oio")})
	wantMoves(t, a, in("ciiaoa"), then{shown(5, 0, api.Rang, 2, 0), become("oiiooo")})
	wantMoves(t, a, in("oiiooo"), finished())
	over := read(t, `<if node="9" else="0" c1="(lt $0 (mul $0 $0))"><empty/><empty/></if>`)
	wantMoves(t, over, in("a", variable(0, api.MaxInt)), faulted(0, 9, api.ErrOver))
	wantMoves(t, over, in("a", variable(0, 1)), then{silent(0, 0), become("oo")})
	wantMoves(t, over, in("a", variable(0, -1)), then{silent(0, 1), become("oio")})
}

// 20.2: a Pick waits for a timer, or one of its messages.
func TestPick(t *testing.T) {
	a := read(t, `<pick node="0"><on node="1" message="3"><wait node="2"/></on><on node="3"><empty/></on><on node="4" message="0"><empty/></on><on node="5" message="3"><sequence><empty/><wait node="6"/></sequence></on></pick>`)
	wantStart(t, a, "a")
	rang := then{shown(0, 1, api.Rang, 3, 0), become("oiioo")}
	first := then{shown(0, 0, api.Got, 1, 0), become("caa", gone(3))}
	third := then{shown(0, 2, api.Got, 4, 0), become("oiiiioo", gone(0))}
	last := then{shown(0, 3, api.Got, 5, 0), become("ciiiiiiaaoa", gone(3))}
	wantMoves(t, a, in("a"), rang, arrives(0), arrives(3))
	wantMoves(t, a, in("a", waiting(3, 1, 1)), rang, third, arrives(3))
	wantMoves(t, a, in("a", waiting(1, 1, 1, 2)), first, rang, third, last, arrives(0), arrives(3))
	wantMoves(t, a, in("a", waiting(0, 0, 0, 3)), first, rang, last, arrives(0))
	wantMoves(t, a, in("caa", waiting(3, 0, 0, 2)), then{shown(2, 0, api.Rang, 2, 0), become("ooo")}, arrives(3))
	wantMoves(t, a, in("ciiiiiiaaoa", waiting(3, 0, 0, 3)), then{shown(10, 0, api.Rang, 6, 0), become("oiiiiiioooo")})
}

// 20.2: a Loop asks behind its first kid, and goes round by its second one, which is forgotten then.
func TestLoop(t *testing.T) {
	a := read(t, `<loop node="3" else="1" leaves="0" c0="(eq $0 1)"><sequence><wait node="1"/><empty/></sequence><flow><wait node="2"/><empty/></flow></loop>`)
	wantStart(t, a, "aaai")
	wantMoves(t, a, in("aaai"), then{shown(2, 0, api.Rang, 1, 0), become("kooo")})
	wantMoves(t, a, in("kooo"), then{silent(0, 1), become("aoooaao")})
	wantMoves(t, a, in("kooo", variable(0, 1)), then{silent(0, 0), become("oooo")})
	wantMoves(t, a, in("aoooaao"), then{shown(5, 0, api.Rang, 2, 0), become("aaaiooo")})
	wantMoves(t, a, in("aaaiooo"), then{shown(2, 0, api.Rang, 1, 0), become("koooooo")})
	wantMoves(t, a, in("koooooo"), then{silent(0, 1), become("aoooaao")})
	wantMoves(t, a, in("koooooo", variable(0, 1)), then{silent(0, 0), become("ooooooo")})

	a = read(t, `<loop node="3" else="1" leaves="1" c0="(eq 1 (div 1 $0))"><empty/><empty/></loop>`)
	wantStart(t, a, "ko")
	wantMoves(t, a, in("ko"), faulted(0, 3, api.ErrZero))
	wantMoves(t, a, in("ko", variable(0, 1)), then{silent(0, 0), become("koo")})
	wantMoves(t, a, in("koo", variable(0, 2)), then{silent(0, 1), become("ooo")})
	wantMoves(t, a, in("koo", variable(0, 1)), then{silent(0, 0), become("koo")})

	// What is around a Loop goes on behind it; what is in it begins anew.
	a = read(t, `<sequence><loop node="3" else="1" leaves="0" c0="(eq $0 1)"><if node="4" else="0" c1="(eq $1 1)"><empty/><empty/></if><wait node="5"/></loop><empty/></sequence>`)
	wantStart(t, a, "aaa")
	wantMoves(t, a, in("aaa"), then{silent(2, 0), become("akoo")})
	// No run comes to a state in which the second kid is Active though the Loop asks: it goes on as ever.
	wantMoves(t, a, in("akooiai"), then{silent(1, 1), become("aaooiai")}, then{shown(5, 0, api.Rang, 5, 0), become("akaiio")})
	wantMoves(t, a, in("akoo", variable(0, 1)), then{silent(1, 0), become("ooooiio")})
}

// 20.2: whatever comes to its end within itself is over at once, through all that is around it.
func TestAllAtOnce(t *testing.T) {
	a := read(t, `<pick node="0"><on node="1"><sequence><empty/><flow><empty/><sequence><empty/><empty/></sequence></flow></sequence></on><on node="2"><empty/></on></pick>`)
	wantMoves(t, a, in("a"), then{shown(0, 0, api.Rang, 1, 0), become("ooooooooo")}, then{shown(0, 1, api.Rang, 2, 0), become("oiiiiiiiioo")})
	deep := strings.Repeat("<sequence><empty/>", 23) + "<empty/>" + strings.Repeat("</sequence>", 23)
	wantStart(t, read(t, deep), strings.Repeat("o", 47))
	wide := bpel.Act{Kind: bpel.Sequence, Kids: slices.Repeat([]bpel.Act{{Kind: bpel.Empty}}, bpel.Most-1)}
	wantStart(t, wide, strings.Repeat("o", bpel.Most))
	wide.Kind = bpel.Flow
	wide.Kids[94] = bpel.Act{Kind: bpel.Wait}
	wantStart(t, wide, "a"+strings.Repeat("o", 94)+"a")
	wantMoves(t, wide, in("a"+strings.Repeat("o", 94)+"a"), then{shown(95, 0, api.Rang, 0, 0), become(strings.Repeat("o", 96))})
}

// linked is what became of a web's links and kids, in letters: o, t and g of links, w, r, d and s of kids.
func linked(links, kids string) func(s *life.State) {
	return func(s *life.State) {
		s.Web = dead.State{}
		for i, letter := range links {
			s.Web.Links[i] = strings.IndexRune("otg", letter)
		}
		for i, letter := range kids {
			s.Web.Kids[i] = strings.IndexRune("wrds", letter)
		}
	}
}

// a gate that splits (0), a Flow (items 2 to 4) and an Empty, a gate that joins (3).
const split = `<web><gate node="0" kind="1"/><flow><wait node="1"/><wait node="2"/></flow><empty/><gate node="3" kind="2"/>` +
	`<link to="0"/><link from="0" to="1"/><link from="0" to="2"/><link from="1" to="3"/><link from="2" to="3"/><link from="3"/></web>`

func TestWeb(t *testing.T) {
	a := read(t, split)
	wantStart(t, a, "aiaaaoi", linked("tttoto", "drdw"))
	rang := func(item, node int, items string, change func(s *life.State)) then {
		return then{shown(item, 0, api.Rang, node, 0), become(items, change)}
	}
	same := linked("tttoto", "drdw")
	wantMoves(t, a, in("aiaaaoi", same), rang(3, 1, "aiaoaoi", same), rang(4, 2, "aiaaooi", same))
	wantMoves(t, a, in("aiaoaoi", same), rang(4, 2, "oiooooi", linked("tttttt", "dddd")))
	wantMoves(t, a, in("oiooooi", linked("tttttt", "dddd")), finished())

	// Kids that are over at once have others begin, wherever these stand.
	a = read(t, `<web><wait node="0"/><empty/><gate node="1" kind="1"/><sequence><empty/><empty/></sequence><gate node="2" kind="4"/>`+
		`<link to="2"/><link from="2" to="1"/><link from="2" to="3"/><link from="1" to="0"/><link from="3" to="4"/><link from="0" to="4"/><link from="4"/></web>`)
	wantStart(t, a, "aaoioooi", linked("tttttoo", "rdddw"))
	wantMoves(t, a, in("aaoioooi", linked("tttttoo", "rdddw")), rang(1, 0, "oooioooi", linked("ttttttt", "ddddd")))
	wantStart(t, read(t, `<web><empty/><empty/><link to="1"/><link from="1" to="0"/><link from="0"/></web>`), "ooo", linked("ttt", "dd"))
	wantStart(t, read(t, `<web><gate node="0" kind="1"/><gate node="1" kind="2"/><link to="0"/><link from="0" to="1"/><link from="0" to="1"/><link from="1"/></web>`), "oii", linked("tttt", "dd"))
}

// a gate that chooses (0) between an Empty, a Wait (the else one) and a Wait, and a gate that joins (4).
const choosing = `<web><gate node="0" kind="3" else="1" c0="(eq $0 1)" c2="(eq 1 (div 1 $1))"/><empty/><wait node="1"/><wait node="2"/><gate node="3" kind="4"/>` +
	`<link to="0"/><link from="0" to="1"/><link from="0" to="2"/><link from="0" to="3"/><link from="1" to="4"/><link from="2" to="4"/><link from="3" to="4"/><link from="4"/></web>`

func TestGate(t *testing.T) {
	a := read(t, choosing)
	first := linked("toooooo", "rwwww")
	wantStart(t, a, "aa", first)
	wantMoves(t, a, in("aa", first, variable(0, 1)), then{silent(1, 0), become("ooo", linked("ttggtggt", "ddssd"))})
	wantMoves(t, a, in("aa", first, variable(1, 2)), then{silent(1, 1), become("aoia", linked("tgtggogo", "dsrsw"))})
	wantMoves(t, a, in("aa", first, variable(1, 1)), then{silent(1, 2), become("aoiia", linked("tggtggoo", "dssrw"))})
	wantMoves(t, a, in("aa", first), faulted(1, 0, api.ErrZero))
	wantMoves(t, a, in("aoia", linked("tgtggogo", "dsrsw")), then{shown(3, 0, api.Rang, 1, 0), become("ooio", linked("tgtggtgt", "dsdsd"))})

	// A gate that joins, and is skipped: the web stops.
	a = read(t, `<web><gate node="0" kind="3" else="0" c1="(eq $0 1)"/><empty/><gate node="3" kind="2"/><link to="0"/><link from="0" to="1"/><link from="0" to="2"/><link from="1" to="2"/><link from="2"/></web>`)
	wantStart(t, a, "aa", linked("toooo", "rww"))
	wantMoves(t, a, in("aa", linked("toooo", "rww")), then{silent(1, 0), become("aoo", linked("ttgtg", "dds"))})
	wantMoves(t, a, in("aoo", linked("ttgtg", "dds")))
}

// 20.2: in states that no run comes to, a web's kid may be Active that does not run: then layer 19 has an error, and the web stays.
func TestOtherWebs(t *testing.T) {
	a := read(t, split)
	was := linked("tttooo", "ddrw")
	wantMoves(t, a, in("aiaoa", was), then{shown(4, 0, api.Rang, 2, 0), become("aiooo")})
	// A web is over behind a kid as soon as layer 19 tells so, if it was not yet.
	over := linked("tttttt", "dddd")
	wantMoves(t, a, in("aiaoaoi", over), then{shown(4, 0, api.Rang, 2, 0), become("oiooooi")})
	wantMoves(t, a, in("oiaoaoi", over), finished(), then{shown(4, 0, api.Rang, 2, 0), become("oiooooi")})
	a = read(t, choosing)
	for _, web := range []func(s *life.State){linked("toooooo", "wwwww"), linked("tgtgggtt", "dsdsd")} {
		wantMoves(t, a, in("aa", web, variable(0, 1)), then{silent(1, 0), become("ao")})
	}
	// Only a gate that splits, one, has moves.
	a = read(t, split)
	wantMoves(t, a, in("aaiiioa", was))
}

// a process with a task, a message, and an assignment that may be a fault.
const rules = `<rules><process><start/><task var="2"/><catch message="1"/><assign var="0" value="(div 6 $2)"/><end/>` +
	`<flow from="0" to="1"/><flow from="1" to="2"/><flow from="2" to="3"/><flow from="3" to="4"/></process></rules>`

// on is that one token is left, on a flow.
func on(flow int) func(s *life.State) {
	return func(s *life.State) {
		none(s)
		s.Tokens[flow] = 1
	}
}

func none(s *life.State) { s.Tokens = [api.MaxFlows]int{} }

func TestRules(t *testing.T) {
	a := read(t, rules)
	wantStart(t, a, "a", on(0))
	did := func(r int) then { return then{shown(0, r, api.Did, 1, r), become("a", on(1), variable(2, r))} }
	wantMoves(t, a, in("a", on(0), variable(2, 9)), did(0), did(1), arrives(1))
	wantMoves(t, a, in("a", on(1), waiting(3, 0, 3, 3)), arrives(1))
	wantMoves(t, a, in("a", on(1), waiting(0, 3)), then{shown(0, 0, api.Got, 2, 0), become("a", on(2), gone(1))})
	wantMoves(t, a, in("a", on(2), variable(2, 2)), then{shown(0, 0, api.Set, 3, 0), become("a", on(3), variable(0, 3))}, arrives(1))
	wantMoves(t, a, in("a", on(2)), faulted(0, 3, api.ErrZero), arrives(1))
	wantMoves(t, a, in("a", on(3)), then{shown(0, 0, api.Finished, 0, 0), become("o", none, mode(token.Ended))}, arrives(1))
	wantMoves(t, a, in("o", mode(token.Ended)))
	wantMoves(t, a, in("a", on(2), mode(token.Broken)))
	// Rules that are over have no Finished of their own: the process's was it.
	wantMoves(t, a, in("o", waiting(0, 3)))
	wantMoves(t, a, in("o", on(0)), arrives(1))
	wantMoves(t, a, in("i", on(0)), arrives(1))
	// Moves of several nodes, each told by which one it is; one that is silent ends nothing.
	many := func(s *life.State) { s.Tokens, s.Queue[1] = [api.MaxFlows]int{1, 1, 0, 2}, 1 }
	less := func(flow int) func(s *life.State) { return func(s *life.State) { s.Tokens[flow]-- } }
	more := func(flow int) func(s *life.State) { return func(s *life.State) { s.Tokens[flow]++ } }
	both := func(r int) then {
		return then{shown(0, r, api.Did, 1, r), become("a", less(0), more(1), variable(2, r))}
	}
	wantMoves(t, a, in("a", many), both(0), both(1), then{shown(0, 2, api.Got, 2, 0), become("a", less(1), more(2), gone(1))}, then{silent(0, 3), less(3)}, arrives(1))
}

// 20.2: items one behind the other, that of all others last; item 0, if it is over, first.
func TestOrder(t *testing.T) {
	a := read(t, `<flow><receive node="0" message="3"/><invoke node="1" var="0"/><receive node="2" message="0"/><wait node="3"/></flow>`)
	moves := life.Moves(a, in("oaaaa", waiting(1, 1, 1, 1)))
	want := []life.Move{shown(0, 0, api.Finished, 0, 0), shown(1, 0, api.Got, 0, 0), shown(2, 0, api.Did, 1, 0), shown(2, 1, api.Did, 1, 1), shown(3, 0, api.Got, 2, 0), shown(4, 0, api.Rang, 3, 0), shown(-1, 0, api.Arrived, 0, 0), shown(-1, 3, api.Arrived, 0, 3)}
	if !slices.Equal(moves, want) {
		t.Errorf("%v; want %v", moves, want)
	}
}
