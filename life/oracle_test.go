package life_test

import (
	"math/rand"
	"slices"
	"testing"

	"treenail/api"
	"treenail/bpel"
	"treenail/dead"
	"treenail/eval"
	"treenail/life"
	"treenail/sample"
	"treenail/token"
)

// player plays a program by the chapter's words: what is to be done next lies on a pile, the uppermost thing first.
type player struct {
	items []bpel.Item
	s     life.State
	pile  []func()
}

func newPlayer(a bpel.Act, s life.State) *player { return &player{items: bpel.Items(a), s: s} }

// next puts things on the pile, so that the first of them is done first.
func (p *player) next(things ...func()) {
	slices.Reverse(things)
	p.pile = append(p.pile, things...)
}

func (p *player) run() {
	for len(p.pile) > 0 {
		last := len(p.pile) - 1
		thing := p.pile[last]
		p.pile = p.pile[:last]
		thing()
	}
}

func (p *player) kid(i, at int) int {
	return slices.IndexFunc(p.items, func(x bpel.Item) bool { return x.Parent == i && x.At == at })
}

func (p *player) inside(i, outer int) bool {
	for ; i >= 0; i = p.items[i].Parent {
		if i == outer {
			return true
		}
	}
	return false
}

func (p *player) begins(i int) func() {
	return func() {
		for j := range p.items {
			if p.inside(j, i) {
				p.s.Status[j] = life.Idle
			}
		}
		p.s.Status[i] = life.Active
		a := p.items[i].Act
		switch a.Kind {
		case bpel.Empty:
			p.next(p.isOver(i))
		case bpel.Sequence, bpel.Loop, bpel.On:
			p.next(p.begins(p.kid(i, 0)))
		case bpel.Flow:
			for at := len(a.Kids) - 1; at >= 0; at-- {
				p.next(p.begins(p.kid(i, at)))
			}
		case bpel.Web:
			p.s.Web, _ = dead.Start(a)
			p.next(p.goesOn(make([]int, 64)))
		case bpel.Rules:
			s, _ := token.Start(a.Net)
			p.s.Tokens = s.Tokens
		}
	}
}

// goesOn is what a web does when kids have begun to run that did not.
func (p *player) goesOn(was []int) func() {
	return func() {
		var things []func()
		for at, now := range p.s.Web.Kids {
			if now == dead.Runs && was[at] != dead.Runs {
				things = append(things, p.begins(p.kid(0, at)))
			}
		}
		p.next(append(things, func() {
			if dead.Over(p.items[0].Act, p.s.Web) && p.s.Status[0] != life.Over {
				p.next(p.isOver(0))
			}
		})...)
	}
}

func (p *player) isOver(i int) func() {
	return func() {
		p.s.Status[i] = life.Over
		parent, at := p.items[i].Parent, p.items[i].At
		if parent < 0 {
			return
		}
		around := p.items[parent].Act
		next := p.kid(parent, at+1)
		switch kind := around.Kind; {
		case kind == bpel.Sequence && next >= 0:
			p.next(p.begins(next))
		case kind == bpel.Flow:
			for k := range around.Kids {
				if p.s.Status[p.kid(parent, k)] != life.Over {
					return
				}
			}
			p.next(p.isOver(parent))
		case kind == bpel.Sequence, kind == bpel.If, kind == bpel.On, kind == bpel.Pick:
			p.next(p.isOver(parent))
		case kind == bpel.Loop && at == 0:
			p.s.Status[parent] = life.Asks
		case kind == bpel.Loop:
			p.next(p.begins(p.kid(parent, 0)))
		case kind == bpel.Web:
			was := slices.Clone(p.s.Web.Kids[:])
			if web, err := dead.Finish(around, p.s.Web, at); err == api.OK {
				p.s.Web = web
			}
			p.next(p.goesOn(was))
		}
	}
}

// option is a move, and the state that it leads to.
type option struct {
	move life.Move
	to   life.State
}

// book is where all moves of a state that is right are put down.
type book struct {
	a bpel.Act
	s life.State
	l []option
}

func (b *book) add(m life.Move, change func(p *player)) {
	p := newPlayer(b.a, b.s)
	change(p)
	p.run()
	b.l = append(b.l, option{m, p.s})
}

func options(a bpel.Act, s life.State) []option {
	if s.Mode != token.Running {
		return nil
	}
	b := &book{a: a, s: s}
	for i, x := range bpel.Items(a) {
		switch {
		case i == 0 && s.Status[0] == life.Over && x.Act.Kind != bpel.Rules:
			b.add(shown(0, 0, api.Finished, 0, 0), func(p *player) { p.s.Mode = token.Ended })
		case s.Status[i] == life.Active && x.Act.Kind == bpel.Rules:
			b.addRules(x.Act.Net)
		case s.Status[i] == life.Active:
			b.addActive(i, x.Act)
		case s.Status[i] == life.Asks && x.Act.Kind == bpel.Loop:
			b.addChoice(i, x.Act)
		}
	}
	for m := range 4 {
		if bpel.Awaits(a, m) && s.Queue[m] < 3 {
			b.add(shown(-1, m, api.Arrived, 0, m), func(p *player) { p.s.Queue[m]++ })
		}
	}
	return b.l
}

func (b *book) addActive(i int, a bpel.Act) {
	over := func(p *player) { p.next(p.isOver(i)) }
	switch {
	case a.Kind == bpel.Invoke:
		for r := range 2 {
			b.add(shown(i, r, api.Did, a.Node, r), func(p *player) {
				p.s.Vars[a.A] = r
				over(p)
			})
		}
	case a.Kind == bpel.Assign:
		v, err := eval.Number(a.Term, b.s.Vars)
		if err != api.OK {
			b.addFault(i, a, err)
			return
		}
		b.add(shown(i, 0, api.Set, a.Node, 0), func(p *player) {
			p.s.Vars[a.A] = v
			over(p)
		})
	case a.Kind == bpel.Receive && b.s.Queue[a.A] > 0:
		b.add(shown(i, 0, api.Got, a.Node, 0), func(p *player) {
			p.s.Queue[a.A]--
			over(p)
		})
	case a.Kind == bpel.Wait:
		b.add(shown(i, 0, api.Rang, a.Node, 0), over)
	case a.Kind == bpel.Pick:
		b.addPick(i, a)
	case a.Kind == bpel.If, a.Kind == bpel.Gate && a.A == 3:
		b.addChoice(i, a)
	}
}

func (b *book) addPick(i int, a bpel.Act) {
	for at, on := range a.Kids {
		enter := func(p *player) {
			p.s.Status[i] = life.Chosen
			p.next(p.begins(p.kid(i, at)))
		}
		if on.A == 4 {
			b.add(shown(i, at, api.Rang, on.Node, 0), enter)
		} else if b.s.Queue[on.A] > 0 {
			b.add(shown(i, at, api.Got, on.Node, 0), func(p *player) {
				p.s.Queue[on.A]--
				enter(p)
			})
		}
	}
}

func (b *book) addFault(i int, a bpel.Act, err api.Errno) {
	b.add(shown(i, 0, api.Faulted, a.Node, int(err)), func(p *player) { p.s.Mode = token.Broken })
}

func (b *book) addChoice(i int, a bpel.Act) {
	chosen, err := choice(a, b.s.Vars)
	if err != api.OK {
		b.addFault(i, a, err)
		return
	}
	b.add(silent(i, chosen), func(p *player) { p.chooses(i, chosen) })
}

func (b *book) addRules(n api.Net) {
	s := token.State{Tokens: b.s.Tokens, Vars: b.s.Vars, Queue: b.s.Queue}
	for k, m := range token.Moves(n, s) {
		if m.Node < 0 {
			continue
		}
		to, _, _ := token.Do(n, s, k)
		b.add(life.Move{Arg: k, Label: m.Label}, func(p *player) {
			p.s.Tokens, p.s.Vars, p.s.Queue, p.s.Mode = to.Tokens, to.Vars, to.Queue, to.Mode
			if to.Mode == token.Ended {
				p.s.Status[0] = life.Over
			}
		})
	}
}

// choice is the place that is chosen, or the fault.
func choice(a bpel.Act, vars [api.Vars]int) (int, api.Errno) {
	other := a.A
	if a.Kind == bpel.Gate {
		other = a.B
	}
	for at, c := range a.Conds {
		if at != other {
			if is, err := eval.Truth(c, vars); is || err != api.OK {
				return at, err
			}
		}
	}
	return other, api.OK
}

func (p *player) chooses(i, chosen int) {
	a := p.items[i].Act
	switch {
	case a.Kind == bpel.If:
		p.s.Status[i] = life.Chosen
		p.next(p.begins(p.kid(i, chosen)))
	case a.Kind == bpel.Loop && chosen == a.B:
		p.next(p.isOver(i))
	case a.Kind == bpel.Loop:
		p.s.Status[i] = life.Active
		p.next(p.begins(p.kid(i, 1)))
	default:
		p.s.Status[i] = life.Over
		was := slices.Clone(p.s.Web.Kids[:])
		if web, err := dead.Choose(p.items[0].Act, p.s.Web, p.items[i].At, chosen); err == api.OK {
			p.s.Web = web
			p.next(p.goesOn(was))
		}
	}
}

// wantOptions holds all moves of a state against the chapter's words, and answers what they lead to.
func wantOptions(t *testing.T, a bpel.Act, s life.State) []option {
	t.Helper()
	want := options(a, s)
	moves := life.Moves(a, s)
	if len(moves) != len(want) {
		t.Fatalf("Moves of %s: %v; want %d", text(s), moves, len(want))
	}
	for i, w := range want {
		to, label, err := life.Do(a, s, i)
		if moves[i] != w.move || label != w.move.Label || err != api.OK || to != w.to {
			t.Fatalf("Do %d of %s: %v, %s, %v; want %v, %s", i, text(s), moves[i], text(to), err, w.move, text(w.to))
		}
		if err := life.Check(a, to); err != api.OK {
			t.Fatalf("%v leads from %s to %s, which is no state", w.move, text(s), text(to))
		}
	}
	wantNone(t, a, s, len(want), api.ErrNone)
	return want
}

// anyState is one of a program, to which a run need not come.
func anyState(a bpel.Act, r *rand.Rand) life.State {
	var s life.State
	for i := range bpel.Size(a) {
		s.Status[i] = []int{life.Idle, life.Active, life.Active, life.Over, life.Chosen, life.Asks}[r.Intn(6)]
	}
	if a.Kind == bpel.Web {
		for i := range a.Links {
			s.Web.Links[i] = r.Intn(3)
		}
		for i := range a.Kids {
			s.Web.Kids[i] = []int{dead.Waits, dead.Waits, dead.Runs, dead.Runs, dead.Done, dead.Skipped}[r.Intn(6)]
		}
	}
	if a.Kind == bpel.Rules {
		for i := range a.Net.Flows {
			s.Tokens[i] = r.Intn(4) * r.Intn(2)
		}
	}
	for i := range s.Vars {
		s.Vars[i] = r.Intn(5) - 1
	}
	for i := range s.Queue {
		s.Queue[i] = r.Intn(4)
	}
	s.Mode = r.Intn(16) / 14
	return s
}

// 20.2, 20.3: any programs in any states.
func TestAnyStates(t *testing.T) {
	r := rand.New(rand.NewSource(20))
	kinds := map[int]int{}
	for range 700 {
		a := sample.Program(r.Intn)
		s := anyState(a, r)
		for _, o := range wantOptions(t, a, s) {
			kinds[o.move.Label.Kind]++
		}
	}
	for kind := range 8 {
		if kinds[kind] < 30 {
			t.Errorf("labels of kind %d: %d times", kind, kinds[kind])
		}
	}
}

// wantBegun is that what has begun lies in what has begun.
func wantBegun(t *testing.T, a bpel.Act, s life.State) {
	t.Helper()
	for i, x := range bpel.Items(a) {
		if x.Parent < 0 || s.Status[i] == life.Idle {
			continue
		}
		around := s.Status[x.Parent]
		if around == life.Idle || s.Status[i] != life.Over && around != life.Active && around != life.Chosen {
			t.Fatalf("item %d of %s", i, text(s))
		}
	}
}

// 20.1, 20.2, 20.3: any runs of any programs.
func TestRuns(t *testing.T) {
	r := rand.New(rand.NewSource(21))
	ends := map[int]int{}
	for range 400 {
		a := sample.Program(r.Intn)
		first := newPlayer(a, life.State{})
		first.next(first.begins(0))
		first.run()
		s, err := life.Start(a)
		if err != api.OK || s != first.s {
			t.Fatalf("Start: %s, %v; want %s", text(s), err, text(first.s))
		}
		for range 30 {
			wantBegun(t, a, s)
			l := wantOptions(t, a, s)
			if len(l) == 0 {
				break
			}
			// Arrivals, which come last, are seldom of use.
			own := slices.IndexFunc(l, func(o option) bool { return o.move.Item < 0 })
			if own > 0 && r.Intn(4) > 0 {
				l = l[:own]
			}
			s = l[r.Intn(len(l))].to
		}
		ends[s.Mode]++
	}
	for mode, least := range []int{20, 100, 20} {
		if ends[mode] < least {
			t.Errorf("mode %d: %d times", mode, ends[mode])
		}
	}
}
