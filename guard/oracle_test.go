package guard_test

import (
	"math/rand"
	"reflect"
	"regexp"
	"slices"
	"strings"
	"testing"

	"treenail/api"
	"treenail/bpel"
	"treenail/guard"
	"treenail/life"
	"treenail/net"
	"treenail/page"
	"treenail/sample"
	"treenail/token"
	"treenail/tree"
)

// stands are the nodes that stand in a program, as the words say it.
func stands(a bpel.Act) []int {
	var l []int
	for _, x := range bpel.Items(a) {
		switch x.Act.Kind {
		case bpel.Rules:
			for i := range x.Act.Net.Nodes {
				l = append(l, i)
			}
		case bpel.Invoke, bpel.Assign, bpel.Receive, bpel.Wait, bpel.If, bpel.Pick, bpel.On, bpel.Loop, bpel.Gate:
			l = append(l, x.Act.Node)
		}
	}
	return l
}

// rename gives the nodes of a program other numbers.
func rename(a *bpel.Act, to map[int]int) {
	if i, ok := to[a.Node]; ok && slices.Contains(stands(bpel.Act{Kind: a.Kind, Node: a.Node}), a.Node) {
		a.Node = i
	}
	for i := range a.Kids {
		rename(&a.Kids[i], to)
	}
}

// risk has half of the assignments divide, or add much.
func risk(a *bpel.Act, r *rand.Rand) {
	if a.Kind == bpel.Assign && r.Intn(2) == 0 {
		op := []int{api.OpDiv, api.OpAdd}[r.Intn(2)]
		a.Term = api.Term{Op: op, Kids: []api.Term{{Op: api.OpNum, N: api.MaxInt}, {Op: api.OpVar, N: r.Intn(api.Vars)}}}
	}
	for i := range a.Kids {
		risk(&a.Kids[i], r)
	}
}

// fitted is a program, of the nodes that are left; one that divides, or an Empty, if it has too many.
func fitted(r *rand.Rand, left []int) (bpel.Act, []int) {
	for range 30 {
		a := sample.Program(r.Intn)
		has := stands(a)
		if a.Kind == bpel.Rules && len(left) == api.MaxNodes {
			return a, slices.DeleteFunc(left, func(i int) bool { return i < len(has) })
		}
		if a.Kind == bpel.Rules || len(has) > len(left)*2/3 || len(has) == 0 {
			continue
		}
		to := map[int]int{}
		for i, node := range has {
			to[node] = left[i]
		}
		rename(&a, to)
		risk(&a, r)
		return a, left[len(has):]
	}
	if len(left) == 0 {
		return empty(), nil
	}
	return divide(left[0]), left[1:]
}

// anyProgram is a right program with some catches; any of its programs may be Rules.
func anyProgram(r *rand.Rand) guard.Program {
	left := r.Perm(api.MaxNodes)
	programs := make([]bpel.Act, 1+r.Intn(4))
	for i := range programs {
		programs[i], left = fitted(r, left)
	}
	r.Shuffle(len(programs), func(i, j int) { programs[i], programs[j] = programs[j], programs[i] })
	p := guard.Program{Main: programs[0]}
	for i, code := range r.Perm(3)[:len(programs)-1] {
		p.Catch = append(p.Catch, guard.Handler{Code: []int{0, 40, 41}[code], Act: programs[i+1]})
	}
	return p
}

// awaited tells whether a program awaits a message.
func awaited(a bpel.Act, m int) bool {
	return slices.ContainsFunc(bpel.Items(a), func(x bpel.Item) bool {
		k := x.Act.Kind
		return (k == bpel.Receive || k == bpel.On) && x.Act.A == m || k == bpel.Rules && net.Awaits(x.Act.Net, m)
	})
}

// all are all programs in one.
func all(p guard.Program) []bpel.Act {
	l := []bpel.Act{p.Main}
	for _, h := range p.Catch {
		l = append(l, h.Act)
	}
	return l
}

// behind is another reading of the words: the moves, each with what it leads to.
func behind(p guard.Program, s guard.State) []then {
	var l []then
	if s.Life.Mode != token.Running {
		return nil
	}
	now := all(p)[s.Phase]
	for i, m := range life.Moves(now, s.Life) {
		if m.Label.Kind == api.Arrived {
			continue
		}
		to := guard.State{Phase: s.Phase}
		to.Life, _, _ = life.Do(now, s.Life, i)
		for at, h := range p.Catch {
			if m.Label.Kind == api.Faulted && s.Phase == 0 && (h.Code == 0 || h.Code == m.Label.Arg) {
				to.Life, _ = life.Start(h.Act)
				to.Life.Vars, to.Life.Queue, to.Phase = s.Life.Vars, s.Life.Queue, at+1
				break
			}
		}
		l = append(l, then{guard.Move{Item: m.Item, Arg: m.Arg, Label: m.Label}, to})
	}
	for m := range api.Msgs {
		if slices.ContainsFunc(all(p), func(a bpel.Act) bool { return awaited(a, m) }) && s.Life.Queue[m] < api.MaxHold {
			to := s
			to.Life.Queue[m]++
			l = append(l, arrives(m, to))
		}
	}
	return l
}

// 30.2, 30.5: runs of any programs: each move, and what it leads to; what is caught changes no values and no messages, and only one fault is.
func TestRuns(t *testing.T) {
	r := rand.New(rand.NewSource(1))
	caught, uncaught, later, ends, kinds := 0, 0, 0, 0, map[int]int{}
	for range 1200 {
		p := anyProgram(r)
		if err := guard.Check(p); err != api.OK {
			t.Fatalf("Check of %v: %v", p, err)
		}
		kinds[p.Main.Kind]++
		s, err := guard.Start(p)
		if a, _ := life.Start(p.Main); s != (guard.State{Life: a}) || err != api.OK {
			t.Fatalf("Start: %s, %v", text(s), err)
		}
		if r.Intn(2) == 0 {
			s.Life.Vars = [api.Vars]int{r.Intn(3), api.MaxInt - r.Intn(3), r.Intn(3), -r.Intn(3)}
			s.Life.Queue = [api.Msgs]int{r.Intn(4), r.Intn(4), r.Intn(4), r.Intn(4)}
		}
		for range 25 {
			l := behind(p, s)
			wantMoves(t, p, s, l...)
			if len(l) == 0 {
				break
			}
			// Faults, and what comes behind them, are rather few.
			x := l[r.Intn(len(l))]
			for _, other := range l {
				if other.move.Label.Kind == api.Faulted && r.Intn(2) == 0 {
					x = other
				}
			}
			switch {
			case x.move.Label.Kind == api.Finished:
				ends++
			case x.move.Label.Kind != api.Faulted:
			case x.to.Phase != s.Phase:
				caught++
				if s.Phase != 0 || x.to.Life.Vars != s.Life.Vars || x.to.Life.Queue != s.Life.Queue {
					t.Fatalf("%s leads to %s", text(s), text(x.to))
				}
			case s.Phase == 0:
				uncaught++
			default:
				later++
			}
			s = x.to
		}
	}
	if min(caught, ends) < 100 || uncaught < 30 || later < 10 || min(kinds[bpel.Rules], kinds[bpel.Web], kinds[bpel.Sequence], kinds[bpel.Flow]) < 30 {
		t.Errorf("%d faults were caught, %d not, %d of catches; %d ends; of kinds %v", caught, uncaught, later, ends, kinds)
	}
}

// 30.4: a program without Catches does what its Main does.
func TestWithoutCatches(t *testing.T) {
	r := rand.New(rand.NewSource(2))
	faults := 0
	for range 800 {
		a := sample.Program(r.Intn)
		p := guard.Program{Main: a}
		s, _ := life.Start(a)
		for range 20 {
			var want []guard.Move
			for _, m := range life.Moves(a, s) {
				want = append(want, guard.Move(m))
			}
			if l := guard.Moves(p, guard.State{Life: s}); !slices.Equal(l, want) {
				t.Fatalf("Moves: %v; want %v", l, want)
			}
			if len(want) == 0 {
				break
			}
			i := r.Intn(len(want))
			to, label, _ := life.Do(a, s, i)
			if x, got, err := guard.Do(p, guard.State{Life: s}, i); x != (guard.State{Life: to}) || got != label || err != api.OK {
				t.Fatalf("Do: %s, %v, %v", text(x), got, err)
			}
			if label.Kind == api.Faulted {
				faults++
			}
			s = to
		}
	}
	if faults < 30 {
		t.Errorf("%d faults", faults)
	}
}

// checked is another reading of 30.1, of programs that are right by themselves.
func checked(p guard.Program) api.Errno {
	codes, nodes := map[int]int{}, map[int]int{}
	for _, h := range p.Catch {
		codes[h.Code]++
	}
	for _, a := range all(p) {
		for _, i := range stands(a) {
			nodes[i]++
		}
	}
	for code := range codes {
		if len(p.Catch) <= 8 && code != 0 && code != 40 && code != 41 {
			return api.ErrArg
		}
	}
	if len(p.Catch) > 8 {
		return api.ErrFull
	}
	for _, counts := range []map[int]int{codes, nodes} {
		for _, n := range counts {
			if n > 1 {
				return api.ErrSame
			}
		}
	}
	return api.OK
}

// 30.1: programs put together anyhow.
func TestAnyCheck(t *testing.T) {
	r := rand.New(rand.NewSource(3))
	found := map[api.Errno]int{}
	for range 1500 {
		p := anyProgram(r)
		for range r.Intn(2) {
			p.Catch = slices.Insert(p.Catch, r.Intn(len(p.Catch)+1), guard.Handler{Code: []int{0, 40, 41, 41, 42}[r.Intn(5)], Act: wait(r.Intn(api.MaxNodes))})
		}
		for r.Intn(6) == 0 || len(p.Catch) > 4 && len(p.Catch) < 9 {
			p.Catch = append(p.Catch, guard.Handler{Code: r.Intn(43), Act: sample.Program(r.Intn)})
		}
		want := checked(p)
		found[want]++
		if err := guard.Check(p); err != want {
			t.Fatalf("Check of %v: %v; want %v", p, err, want)
		}
	}
	for _, e := range []api.Errno{api.OK, api.ErrSame, api.ErrArg, api.ErrFull} {
		if found[e] < 20 {
			t.Errorf("%v", found)
		}
	}
}

// 30.6: what was written is read; and what is written is the words' element.
func TestWrittenIsRead(t *testing.T) {
	r := rand.New(rand.NewSource(4))
	written, long := 0, 0
	for range 1000 {
		p := anyProgram(r)
		want := "<guarded>"
		for i, a := range all(p) {
			e, _ := page.Elem(a)
			inner := plain(e)
			switch {
			case i == 0:
				want += inner
			case p.Catch[i-1].Code == 0:
				want += "<catch>" + inner + "</catch>"
			default:
				want += `<catch code="` + map[int]string{40: "40", 41: "41"}[p.Catch[i-1].Code] + `">` + inner + "</catch>"
			}
		}
		want += "</guarded>"
		s, err := guard.Write(p)
		if e, _, other := tree.Parse(want); other != api.OK {
			long++
			if s != "" || err != api.ErrLong && err != api.ErrFull {
				t.Fatalf("Write: %v; want an error as %v", err, tree.Check(e))
			}
			continue
		}
		written++
		if s != want || err != api.OK {
			t.Fatalf("Write: %s, %v; want %s", s, err, want)
		}
		q, at, err := guard.Read(s)
		if at != 0 || err != api.OK || !same(p, q) {
			t.Fatalf("Read(%s): %v, %d, %v", s, q, at, err)
		}
		if again, err := guard.Write(q); again != s || err != api.OK {
			t.Fatalf("Write: %s, %v; want %s", again, err, s)
		}
	}
	if written < 600 {
		t.Errorf("%d were written, %d not", written, long)
	}
}

// plain is an element's text, whatever its size.
func plain(e tree.Elem) string {
	s := "<" + e.Name
	for _, a := range e.Attrs {
		s += " " + a.Name + `="` + a.Value + `"`
	}
	if len(e.Kids) == 0 {
		return s + "/>"
	}
	s += ">"
	for _, k := range e.Kids {
		s += plain(k)
	}
	return s + "</" + e.Name + ">"
}

func same(p, q guard.Program) bool {
	return bpel.Same(p.Main, q.Main) && slices.EqualFunc(p.Catch, q.Catch, func(a, b guard.Handler) bool { return a.Code == b.Code && bpel.Same(a.Act, b.Act) })
}

var frame = regexp.MustCompile(`^<guarded>(<[a-z].*?>)((?:<catch(?: code="4[01]")?>.*?</catch>)*)</guarded>$`)

var pieces = []string{"<catch>", "</catch>", `<catch code="41">`, `<catch code="40">`, "<empty/>", "<guarded>", "</guarded>", ` code="41"`, `<wait node="1"/>`, `<wait node="2"/>`, "<catch><empty/></catch>",
	"<catch><empty/></catch></guarded>", "catch", "code", "41", "0", "x", " ", ""}

// spliced is a text with a piece put into it, at any place, or ahead of a mark; or in place of some bytes.
func spliced(s string, r *rand.Rand) string {
	cut := r.Intn(len(s) + 1)
	rest := s[cut:]
	switch r.Intn(3) {
	case 0:
		rest = rest[min(len(rest), r.Intn(12)):]
	case 1:
		if i := strings.IndexByte(rest, '<'); i >= 0 {
			cut, rest = cut+i, rest[i:]
		}
	}
	return s[:cut] + pieces[r.Intn(len(pieces))] + rest
}

// someDocuments are so many, in which many programs are small.
func someDocuments(r *rand.Rand, count int) []string {
	var l []string
	for len(l) < count {
		p := anyProgram(r)
		p.Main = []bpel.Act{empty(), wait(0), p.Main}[r.Intn(3)]
		for i := range p.Catch {
			p.Catch[i].Act = []bpel.Act{empty(), wait(i + 1), p.Catch[i].Act}[r.Intn(3)]
		}
		if s, err := guard.Write(p); err == api.OK {
			l = append(l, s)
		}
	}
	return l
}

// 30.3: documents with a change are read just if they are some program's, as which they are written again.
func TestChangedDocuments(t *testing.T) {
	r := rand.New(rand.NewSource(5))
	read, found := 0, map[api.Errno]int{}
	documents := someDocuments(r, 200)
	for range 20000 {
		s := documents[r.Intn(len(documents))]
		if r.Intn(2) == 0 {
			s = spliced(s, r)
		} else {
			s = strings.Replace(s, pieces[r.Intn(len(pieces))], pieces[r.Intn(len(pieces))], 1+r.Intn(3))
		}
		q, at, err := guard.Read(s)
		found[err]++
		if err != api.OK {
			if !reflect.DeepEqual(q, guard.Program{}) {
				t.Fatalf("Read(%s): %v beside %v", s, q, err)
			}
			if e, place, wrong := tree.Parse(s); at != place || wrong != api.OK && err != wrong || wrong == api.OK && err == api.ErrForm && rightFrame(e) {
				t.Fatalf("Read(%s): %d, %v", s, at, err)
			}
			continue
		}
		read++
		if again, _ := guard.Write(q); again != s || !frame.MatchString(s) || at != 0 {
			// An element without kids has two texts.
			if e, _, _ := tree.Parse(s); plain(e) != again {
				t.Fatalf("Read(%s): written %s", s, again)
			}
		}
	}
	if read < 300 || found[api.ErrForm] < 300 || found[api.ErrSame] < 30 {
		t.Errorf("%d were read: %v", read, found)
	}
}

// rightFrame tells whether an element is one as the words say, and all in it are programs' elements.
func rightFrame(e tree.Elem) bool {
	if e.Name != "guarded" || len(e.Attrs) > 0 || e.Text != "" || len(e.Kids) == 0 {
		return false
	}
	for i, k := range e.Kids {
		act := k
		if i > 0 {
			value, has := tree.Get(k, "code")
			if k.Name != "catch" || len(k.Kids) != 1 || len(k.Attrs) > 1 || has != (len(k.Attrs) == 1) || has && value != "40" && value != "41" {
				return false
			}
			act = k.Kids[0]
		}
		if _, err := page.Act(act); err != api.OK {
			return false
		}
	}
	return true
}
