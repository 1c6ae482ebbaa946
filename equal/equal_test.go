package equal_test

import (
	"math"
	"reflect"
	"slices"
	"strings"
	"testing"

	"treenail/api"
	"treenail/bpel"
	"treenail/chain"
	"treenail/equal"
	"treenail/page"
	"treenail/sample"
)

const invoke = `<invoke node="1" var="0"/>`

// read is the program of a document that must be one.
func read(t *testing.T, s string) bpel.Act {
	t.Helper()
	a, at, err := page.Read(s)
	if err != api.OK {
		t.Fatalf("%s: %v at %d", s, err, at)
	}
	return a
}

// sequence is the program of activities one behind the other.
func sequence(t *testing.T, parts ...string) bpel.Act {
	t.Helper()
	return read(t, "<sequence>"+strings.Join(parts, "")+"</sequence>")
}

// byResult chooses by the variable 0: what is done if it is 0, and what if it is 1.
func byResult(zero, one string) string {
	return `<if node="9" else="0" c1="(eq $0 1)">` + zero + one + `</if>`
}

// compiled is a process's own program.
func compiled(t *testing.T, n api.Net) bpel.Act {
	t.Helper()
	a, l := chain.Program(n)
	if len(l) > 0 {
		t.Fatalf("%v: %v", n, l)
	}
	return a
}

func did(node, r int) api.Label { return api.Label{Kind: api.Did, Node: node, Arg: r} }

func set(node int) api.Label { return api.Label{Kind: api.Set, Node: node} }

func got(node int) api.Label { return api.Label{Kind: api.Got, Node: node} }

func rang(node int) api.Label { return api.Label{Kind: api.Rang, Node: node} }

func arrived(m int) api.Label { return api.Label{Kind: api.Arrived, Arg: m} }

var finished = api.Label{Kind: api.Finished}

// wantWalk asks for the labels of a walk, and whether both differ nowhere.
func wantWalk(t *testing.T, n api.Net, a bpel.Act, picks []int, same bool, want ...api.Label) {
	t.Helper()
	if l, ok, err := equal.Walk(n, a, picks); !slices.Equal(l, want) || ok != same || err != api.OK {
		t.Errorf("Walk %v: %v, %v, %v; want %v, %v", picks, l, ok, err, want, same)
	}
}

// wantNoWalk asks Walk for an error.
func wantNoWalk(t *testing.T, n api.Net, a bpel.Act, picks []int, want api.Errno) {
	t.Helper()
	if l, same, err := equal.Walk(n, a, picks); len(l) != 0 || same || err != want {
		t.Errorf("Walk %v: %v, %v, %v; want %v", picks, l, same, err, want)
	}
}

// wantSame asks for how many ways there are, at whose ends both are the same.
func wantSame(t *testing.T, n api.Net, a bpel.Act, depth, many int) {
	t.Helper()
	if k, same, err := equal.All(n, a, depth); k != many || !same || err != api.OK {
		t.Errorf("All %d: %d, %v, %v; want %d", depth, k, same, err, many)
	}
	if l, never, err := equal.First(n, a, depth); len(l) != 0 || !never || err != api.OK {
		t.Errorf("First %d: %v, %v, %v; want none", depth, l, never, err)
	}
}

// wantOther asks for how many ways there are, and for the first at whose end both differ.
func wantOther(t *testing.T, n api.Net, a bpel.Act, depth, many int, first ...api.Label) {
	t.Helper()
	if k, same, err := equal.All(n, a, depth); k != many || same || err != api.OK {
		t.Errorf("All %d: %d, %v, %v; want %d", depth, k, same, err, many)
	}
	if l, never, err := equal.First(n, a, depth); !slices.Equal(l, first) || never || err != api.OK {
		t.Errorf("First %d: %v, %v, %v; want %v", depth, l, never, err, first)
	}
}

// wantWrong asks All and First for an error.
func wantWrong(t *testing.T, n api.Net, a bpel.Act, depth int, want api.Errno) {
	t.Helper()
	if k, same, err := equal.All(n, a, depth); k != 0 || same || err != want {
		t.Errorf("All %d: %d, %v, %v; want %v", depth, k, same, err, want)
	}
	if l, never, err := equal.First(n, a, depth); len(l) != 0 || never || err != want {
		t.Errorf("First %d: %v, %v, %v; want %v", depth, l, never, err, want)
	}
}

// 27: the chapter's example.
func TestExample(t *testing.T) {
	n, a := sample.Of("ste", "0-1 1-2"), read(t, invoke)
	for depth, many := range []int{1, 3, 5, 5} {
		wantSame(t, n, a, depth, many)
	}
}

// 27.1: the label at the place pick mod how many there are, till there is none.
func TestWalk(t *testing.T) {
	n := sample.Of("snttne", "0-1 1-2 1-3 2-4 3-4 4-5")
	a := compiled(t, n)
	for pick, want := range []api.Label{did(2, 0), did(2, 1), did(3, 0), did(3, 1), did(2, 0)} {
		wantWalk(t, n, a, []int{pick}, true, want)
	}
	wantWalk(t, n, a, nil, true)
	wantWalk(t, n, a, []int{}, true)
	wantWalk(t, n, a, []int{math.MaxInt}, true, did(3, 1))
	wantWalk(t, n, a, []int{7, 3}, true, did(3, 1), did(2, 1))
	wantWalk(t, n, a, []int{2, 0, 9, 9, 9, math.MaxInt}, true, did(3, 0), did(2, 0), finished)

	// Whatever the order of the nodes, labels rise by their kinds.
	n = sample.Of("sncmtne", "0-1 1-2 1-3 1-4 2-5 3-5 4-5 5-6")
	a = compiled(t, n)
	for pick, want := range []api.Label{did(4, 0), did(4, 1), rang(2), arrived(0)} {
		wantWalk(t, n, a, []int{pick}, true, want)
	}
	wantWalk(t, n, a, []int{3, 4, 2, 7, 0, 0, 1, 0}, true, arrived(0), arrived(0), got(3), arrived(0), did(4, 0), rang(2), finished)
}

// 27.1: it goes on as long as no pair differs.
func TestWalkDiffers(t *testing.T) {
	n := sample.Of("stttce", "0-1 1-2 2-3 3-4 4-5")
	a := sequence(t, invoke, `<invoke node="2" var="0"/>`, `<invoke node="3" var="1"/>`, `<wait node="4"/>`)
	wantWalk(t, n, a, []int{0, 1, 0, 0, 0, 0}, true, did(1, 0), did(2, 1), did(3, 0), rang(4), finished)

	a = sequence(t, invoke, byResult(`<invoke node="2" var="0"/>`, `<wait node="8"/>`), `<invoke node="3" var="0"/>`, `<wait node="4"/>`)
	wantWalk(t, n, a, nil, true)
	wantWalk(t, n, a, []int{0, 0, 0, 0, 0}, true, did(1, 0), did(2, 0), did(3, 0), rang(4), finished)
	wantWalk(t, n, a, []int{1}, false, did(1, 1))
	wantWalk(t, n, a, []int{1, 0, 0, 0, 0}, false, did(1, 1))

	for _, other := range []string{`<wait node="1"/>`, `<invoke node="2" var="0"/>`, `<empty/>`} {
		wantWalk(t, n, read(t, other), nil, false)
		wantWalk(t, n, read(t, other), []int{0, 0, 0}, false)
	}
	// One has all labels of the other, and more.
	fork, row := sample.Of("snttne", "0-1 1-2 1-3 2-4 3-4 4-5"), sample.Of("stte", "0-1 1-2 2-3")
	wantWalk(t, fork, sequence(t, `<invoke node="2" var="0"/>`, `<invoke node="3" var="0"/>`), []int{0}, false)
	wantWalk(t, row, read(t, `<flow>`+invoke+`<invoke node="2" var="0"/></flow>`), []int{0}, false)
	// One is over ahead of the other.
	wantWalk(t, sample.Of("ste", "0-1 1-2"), sequence(t, invoke, `<wait node="2"/>`), []int{0, 0, 0}, false, did(1, 0))
	wantWalk(t, sample.Of("stce", "0-1 1-2 2-3"), read(t, invoke), []int{0, 0, 0}, false, did(1, 0))
	wantWalk(t, sample.Of("se", "0-1"), read(t, "<empty/>"), []int{0, 0}, true, finished)
}

// 27.2: how many ways there are, that of no label too.
func TestAll(t *testing.T) {
	n := sample.Of("snttne", "0-1 1-2 1-3 2-4 3-4 4-5")
	for depth, many := range []int{1, 5, 13, 21, 21, 21, 21, 21, 21, 21, 21, 21, 21} {
		wantSame(t, n, compiled(t, n), depth, many)
	}
	// Ways go round; a message may be there already, or come behind all.
	n = sample.Of("sxtxe", "0-1 3-1 1-2 2-3 3-4")
	for depth, many := range []int{1, 3, 6, 9, 12} {
		wantSame(t, n, read(t, `<loop node="3" else="1" leaves="1" c0="(eq $0 1)"><invoke node="2" var="0"/><empty/></loop>`), depth, many)
	}
	n = sample.Of("sme", "0-1 1-2")
	for depth, many := range []int{1, 2, 4, 8, 13} {
		wantSame(t, n, read(t, `<receive node="1" message="0"/>`), depth, many)
	}
}

// 27.2: a way goes on only where no pair differs, and counts all the same.
func TestAllDiffers(t *testing.T) {
	n := sample.Of("stte", "0-1 1-2 2-3")
	for _, then := range []string{"<empty/>", `<wait node="3"/>`, `<invoke node="3" var="0"/>`} {
		a := sequence(t, invoke, byResult(`<invoke node="2" var="0"/>`, then))
		wantSame(t, n, a, 0, 1)
		for depth, many := range []int{3, 5, 7, 7, 7} {
			wantOther(t, n, a, depth+1, many, did(1, 1))
		}
	}
	for depth := range 13 {
		wantOther(t, n, read(t, `<empty/>`), depth, 1)
	}
}

// 27.2, 27.3: ways that come to the same states of one of both, but not of the other.
func TestWaysThatMeet(t *testing.T) {
	// The first result is kept, and chosen by; or it is gone.
	keeps, forgets := sample.Of("sttxtcxe", "0-1 1-2 2-3 3-4 3-5 4-6 5-6 6-7"), sample.Of("stttte", "0-1 1-2 2-3 3-4 4-5")
	keeps.Nodes[1].A = 1
	keeps.Flows[3].Cond.Kids = []api.Term{{Op: api.OpVar, N: 1}, {Op: api.OpNum}}
	forgets.Nodes[3], forgets.Nodes[4] = api.Node{Kind: api.Catch, A: api.Msgs}, api.Node{Kind: api.Catch, A: api.Msgs}
	chooses := sequence(t, `<invoke node="1" var="1"/>`, `<invoke node="2" var="0"/>`, `<if node="9" else="1" c0="(eq $1 0)"><invoke node="8" var="0"/><wait node="3"/></if>`, `<wait node="4"/>`)
	for depth, many := range []int{7, 9, 11, 13} {
		wantOther(t, keeps, sequence(t, invoke, `<invoke node="2" var="0"/>`, `<wait node="5"/>`), depth+2, min(many, 11), did(1, 0), did(2, 0))
		wantOther(t, forgets, chooses, depth+2, many, did(1, 0), did(2, 0))
	}
}

// 27.3: a shorter way is ahead of a longer one; of one length, one whose labels are ahead.
func TestFirst(t *testing.T) {
	n := sample.Of("sttte", "0-1 1-2 2-3 3-4")
	// Behind the result 0 both differ two labels on, behind 1 at once.
	a := sequence(t, invoke, byResult(`<invoke node="2" var="0"/>`, `<wait node="3"/>`))
	wantOther(t, n, a, 1, 3, did(1, 1))
	wantOther(t, n, a, 2, 5, did(1, 1))
	wantOther(t, n, a, 12, 5, did(1, 1))
	a = sequence(t, invoke, byResult(`<wait node="3"/>`, "<empty/>"))
	wantOther(t, n, a, 12, 3, did(1, 0))
	// The last label of the other way is ahead, but its first is not.
	a = sequence(t, `<invoke node="1" var="1"/>`, `<invoke node="2" var="0"/>`, `<if node="9" else="0" c1="(eq $0 $1)"><wait node="7"/><invoke node="3" var="0"/></if>`)
	wantSame(t, n, a, 1, 3)
	wantOther(t, n, a, 2, 7, did(1, 0), did(2, 1))
	wantOther(t, n, a, 3, 11, did(1, 0), did(2, 1))
	wantOther(t, n, a, 4, 15, did(1, 0), did(2, 1))
}

// 27.1 to 27.3: the first error that is so: of the process, of the program, of the picks or the depth; only then of clouds.
func TestErrors(t *testing.T) {
	n, a, great := sample.Of("ste", "0-1 1-2"), read(t, invoke), read(t, burst(11))
	twice := bpel.Act{Kind: bpel.Sequence, Kids: []bpel.Act{a, a}}
	long := bpel.Act{Kind: bpel.Flow, Kids: slices.Repeat([]bpel.Act{{Kind: bpel.Empty}}, bpel.Most)}
	for _, x := range []struct {
		n    api.Net
		a    bpel.Act
		want api.Errno
	}{
		{api.Net{}, a, api.ErrForm}, {api.Net{}, long, api.ErrForm}, {api.Net{}, twice, api.ErrForm}, {api.Net{}, great, api.ErrForm},
		{n, bpel.Act{}, api.ErrForm}, {n, long, api.ErrLong}, {n, twice, api.ErrSame},
		{branched, bpel.Act{}, api.ErrForm}, {branched, long, api.ErrLong}, {branched, twice, api.ErrSame},
	} {
		for _, depth := range []int{0, 3, -1, 13} {
			wantWrong(t, x.n, x.a, depth, x.want)
		}
		for _, picks := range [][]int{nil, {0}, {-1}} {
			wantNoWalk(t, x.n, x.a, picks, x.want)
		}
	}
	for _, m := range []api.Net{n, branched} {
		for _, b := range []bpel.Act{a, great} {
			for _, depth := range []int{-1, 13, math.MinInt, math.MaxInt} {
				wantWrong(t, m, b, depth, api.ErrArg)
			}
			// Also where nothing is picked any more.
			for _, picks := range [][]int{{-1}, {0, -1}, {0, 0, 0, 0, 0, math.MinInt}, {-1, 0}} {
				wantNoWalk(t, m, b, picks, api.ErrArg)
			}
		}
	}
}

// R3, R6: what is handed in stays as it is, and answers are new memory.
func TestMemory(t *testing.T) {
	n, was := sample.Of("stte", "0-1 1-2 2-3"), sample.Of("stte", "0-1 1-2 2-3")
	text := []string{invoke, byResult(`<invoke node="2" var="0"/>`, `<wait node="3"/>`)}
	a := sequence(t, text...)
	picks := append(make([]int, 0, 9), 0, 1, 2)
	for range 2 {
		l, _, _ := equal.Walk(n, a, picks)
		if !slices.Equal(l, []api.Label{did(1, 0), did(2, 1), finished}) {
			t.Errorf("Walk: %v", l)
		}
		clear(l[:cap(l)])
		l, _, _ = equal.First(n, a, 4)
		if !slices.Equal(l, []api.Label{did(1, 1)}) {
			t.Errorf("First: %v", l)
		}
		clear(l[:cap(l)])
	}
	if !reflect.DeepEqual(n, was) || !bpel.Same(a, sequence(t, text...)) || !slices.Equal(picks[:9], []int{0, 1, 2, 0, 0, 0, 0, 0, 0}) {
		t.Error("what is handed in is another one")
	}
	// An altered program is another one.
	a.Kids[0].Node = 5
	wantOther(t, n, a, 4, 1)
}

// P3: calls end at anything.
func TestEnds(t *testing.T) {
	kids, terms := make([]bpel.Act, 2), make([]api.Term, 2)
	for i := range kids {
		kids[i] = bpel.Act{Kind: bpel.Flow, Kids: kids}
		terms[i] = api.Term{Op: api.OpAnd, Kids: terms}
	}
	n, wrong := sample.Of("ste", "0-1 1-2"), sample.Of("ste", "0-1 1-2")
	wrong.Nodes[1] = api.Node{Kind: api.Assign, Term: terms[0]}
	wantWrong(t, n, kids[0], 2, api.ErrLong)
	wantNoWalk(t, n, kids[0], nil, api.ErrLong)
	wantWrong(t, wrong, kids[0], 2, api.ErrForm)
	wantNoWalk(t, wrong, kids[0], nil, api.ErrForm)
}
