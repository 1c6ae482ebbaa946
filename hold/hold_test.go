package hold_test

import (
	"fmt"
	"math"
	"math/rand"
	"slices"
	"strconv"
	"strings"
	"testing"

	"treenail/api"
	"treenail/bpel"
	"treenail/hold"
	"treenail/life"
	"treenail/page"
	"treenail/token"
)

func read(t *testing.T, s string) bpel.Act {
	t.Helper()
	a, at, err := page.Read(s)
	if err != api.OK {
		t.Fatalf("%s: %v at %d", s, err, at)
	}
	return a
}

const invoke = `<invoke node="1" var="0"/>`

// choice is a choice between nothing and nothing, which goes silently.
func choice(node int) string {
	return `<if node="` + strconv.Itoa(node) + `" else="1" c0="(eq $0 1)"><empty/><empty/></if>`
}

// burst is so many choices at the same time, of the nodes from 2 on.
func burst(choices int) string {
	s := "<flow>"
	for i := range choices {
		s += choice(2 + i)
	}
	return s + "</flow>"
}

func did(node, arg int) api.Label { return api.Label{Kind: api.Did, Node: node, Arg: arg} }

func got(node int) api.Label { return api.Label{Kind: api.Got, Node: node} }

func rang(node int) api.Label { return api.Label{Kind: api.Rang, Node: node} }

func arrived(m int) api.Label { return api.Label{Kind: api.Arrived, Arg: m} }

var finished = api.Label{Kind: api.Finished}

// in is a state whose items are letters: i is Idle, a Active, o Over, c Chosen, k Asks; its variables have values.
func in(items string, vars ...int) life.State {
	var s life.State
	for i, letter := range items {
		s.Status[i] = strings.IndexRune("iaock", letter)
	}
	copy(s.Vars[:], vars)
	return s
}

// many is so many states that differ in the variable 1 alone.
func many(count int, items string) []life.State {
	l := make([]life.State, count)
	for i := range l {
		l[i] = in(items, 0, i)
	}
	return l
}

// text is the first states of a list: their items as letters, the variables, and the mode.
func text(l []life.State) string {
	s := strconv.Itoa(len(l)) + " states:"
	for _, x := range l[:min(len(l), 10)] {
		s += " "
		for _, status := range x.Status {
			s += "iaock"[status : status+1]
		}
		s = fmt.Sprint(strings.TrimRight(s, "i"), x.Vars, x.Mode)
	}
	return s
}

func wantCloud(t *testing.T, what string, got []life.State, err api.Errno, want ...life.State) {
	t.Helper()
	if !slices.Equal(got, want) || err != api.OK {
		t.Errorf("%s: %s, %v; want %s", what, text(got), err, text(want))
	}
}

func wantError(t *testing.T, what string, got []life.State, err, want api.Errno) {
	t.Helper()
	if len(got) != 0 || err != want {
		t.Errorf("%s: %d states, %v; want %v", what, len(got), err, want)
	}
}

func wantLabels(t *testing.T, a bpel.Act, l []life.State, want ...api.Label) {
	t.Helper()
	if got := hold.Labels(a, l); !slices.Equal(got, want) {
		t.Errorf("Labels: %v; want %v", got, want)
	}
}

// 26: the chapter's example.
func TestExample(t *testing.T) {
	a := read(t, `<flow>`+invoke+`<wait node="2"/></flow>`)
	c, err := hold.Begin(a)
	wantCloud(t, "Begin", c, err, in("aaa"))
	wantLabels(t, a, c, did(1, 0), did(1, 1), rang(2))
}

// 26.1: states stand in the order in which they were found: those of the list first, then what each one's silent moves lead to.
func TestOrder(t *testing.T) {
	a := read(t, burst(2))
	c, err := hold.Begin(a)
	wantCloud(t, "Begin", c, err, in("aaiiaii"), in("aoioaii"), in("aaiioio"), in("ooiooio"))
	c, err = hold.Close(a, []life.State{in("aaiioio"), in("aoioaii"), in("aaiioio")})
	wantCloud(t, "Close", c, err, in("aaiioio"), in("aoioaii"), in("ooiooio"))
	c, err = hold.Close(a, []life.State{in("ooiooio"), in("aaiiaii", 1), in("ooiooio", 1)})
	wantCloud(t, "Close", c, err, in("ooiooio"), in("aaiiaii", 1), in("ooiooio", 1), in("aooiaii", 1), in("aaiiooi", 1), in("oooiooi", 1))
	wantLabels(t, a, c, finished)
	c, err = hold.Close(a, nil)
	wantCloud(t, "Close", c, err)
}

// 26.1: what goes silently of each kind: a choice, a loop, a web's gate, rules.
func TestSilent(t *testing.T) {
	a := read(t, `<loop node="1" else="0" leaves="1" c1="(eq $0 1)"><empty/>`+choice(2)+`</loop>`)
	c, err := hold.Begin(a)
	wantCloud(t, "Begin", c, err, in("koi"), in("aoa"), in("kooio"))
	wantLabels(t, a, c)
	c, err = hold.Close(a, []life.State{in("koi", 1)})
	wantCloud(t, "Close", c, err, in("koi", 1), in("ooi", 1))
	wantLabels(t, a, c, finished)

	a = read(t, `<web><gate node="1" kind="3" else="1" c0="(eq $0 1)"/><wait node="2"/><gate node="3" kind="4"/><link to="0"/><link from="0" to="1"/><link from="0" to="2"/><link from="1" to="2"/><link from="2"/></web>`)
	c, err = hold.Begin(a)
	if len(c) != 2 || err != api.OK || c[1].Status != in("ooii").Status {
		t.Errorf("Begin of a web: %v, %v", c, err)
	}
	wantLabels(t, a, c, finished)
	c[0].Vars[0] = 1
	c, err = hold.Close(a, c[:1])
	if len(c) != 2 || err != api.OK {
		t.Errorf("Close of a web: %v, %v", c, err)
	}
	wantLabels(t, a, c, rang(2))

	a = read(t, `<rules><process><start/><and/><xor/><end/><flow from="0" to="1"/><flow from="1" to="2"/><flow from="1" to="2"/><flow from="2" to="3"/></process></rules>`)
	c, err = hold.Begin(a)
	if len(c) != 8 || err != api.OK || c[7].Tokens[3] != 1 {
		t.Errorf("Begin of rules: %v, %v", c, err)
	}
	wantLabels(t, a, c, finished)
}

// 26.1: what is seen is not gone behind, and Ended and Broken states have nothing behind them.
func TestNoMore(t *testing.T) {
	a := read(t, `<sequence>`+invoke+choice(2)+`</sequence>`)
	c, err := hold.Begin(a)
	wantCloud(t, "Begin", c, err, in("aaiii"))
	ended, broken := in("aoaii"), in("aoaii")
	ended.Mode, broken.Mode = token.Ended, token.Broken
	c, err = hold.Close(a, []life.State{ended, broken})
	wantCloud(t, "Close", c, err, ended, broken)
	wantLabels(t, a, c)
}

// wrong are activities that are no programs, by their errors.
func wrong(t *testing.T) map[api.Errno][]bpel.Act {
	one, wait := read(t, invoke), read(t, `<wait node="1"/>`)
	long := bpel.Act{Kind: bpel.Flow, Kids: slices.Repeat([]bpel.Act{{Kind: bpel.Empty}}, bpel.Most)}
	round := bpel.Act{Kind: bpel.Sequence, Kids: make([]bpel.Act, 2)}
	round.Kids[0], round.Kids[1] = round, round
	return map[api.Errno][]bpel.Act{
		api.ErrForm: {{}, {Kind: bpel.Sequence}, {Kind: bpel.Sequence, Kids: []bpel.Act{one}}, {Kind: bpel.Gate, A: 1}, {Kind: bpel.On, A: 1, Kids: []bpel.Act{one}}, {Kind: bpel.Rules}},
		api.ErrLong: {long, round},
		api.ErrSame: {{Kind: bpel.Flow, Kids: []bpel.Act{one, wait}}},
	}
}

// 26.1, 26.2, 26.3: bpel.Check's errors, ahead of all others.
func TestProgramErrors(t *testing.T) {
	bad := in("a")
	bad.Mode = 3
	for want, l := range wrong(t) {
		for _, a := range l {
			for _, l := range [][]life.State{nil, {in("a")}, {bad}, many(hold.Most+1, "a")} {
				c, err := hold.Close(a, l)
				wantError(t, "Close", c, err, want)
				c, err = hold.After(a, l, api.Label{})
				wantError(t, "After", c, err, want)
				wantLabels(t, a, l)
			}
			c, err := hold.Begin(a)
			wantError(t, "Begin", c, err, want)
			if k, err := hold.Accepts(a, []api.Label{finished}); k != 0 || err != want {
				t.Errorf("Accepts: %d, %v; want %v", k, err, want)
			}
			for _, picks := range [][]int{nil, {0}, {-1}} {
				if l, err := hold.Seen(a, picks); len(l) != 0 || err != want {
					t.Errorf("Seen: %v, %v; want %v", l, err, want)
				}
			}
		}
	}
}

// 26.1, 26.2: ErrArg of what is no state of the program, wherever it stands, and ahead of ErrFull.
func TestStateErrors(t *testing.T) {
	a := read(t, invoke)
	bad, web, beyond := in("a"), in("a"), in("aa")
	bad.Mode, web.Web.Kids[0] = 3, 1
	for _, l := range [][]life.State{{bad}, {in("a"), bad}, {bad, in("a")}, {web}, {beyond}, {in("a", api.MaxInt+1)}, append(many(hold.Most+1, "a"), bad)} {
		c, err := hold.Close(a, l)
		wantError(t, "Close", c, err, api.ErrArg)
		c, err = hold.After(a, l, did(1, 0))
		wantError(t, "After", c, err, api.ErrArg)
	}
}

// 26.1: a cloud has Most states, and no more; each counts once.
func TestMost(t *testing.T) {
	a := read(t, invoke)
	l := many(hold.Most, "a")
	c, err := hold.Close(a, slices.Concat(l, l))
	wantCloud(t, "Close", c, err, l...)
	c, err = hold.Close(a, append(l, in("o")))
	wantError(t, "Close", c, err, api.ErrFull)

	// the last one is found by a silent move
	a = read(t, choice(2))
	l = many(hold.Most, "o")
	l[hold.Most-1] = in("a")
	c, err = hold.Close(a, l)
	wantError(t, "Close", c, err, api.ErrFull)
	c, err = hold.Close(a, l[1:])
	wantCloud(t, "Close", c, err, append(slices.Clone(l[1:]), in("oio"))...)
	if hold.Most != 1500 {
		t.Error(hold.Most)
	}
}

// 26.1, 26.2: clouds that are too great: that of Begin, and those on the way.
func TestGreat(t *testing.T) {
	for choices, want := range map[int]api.Errno{10: api.OK, 11: api.ErrFull} {
		a := read(t, burst(choices))
		c, err := hold.Begin(a)
		if err != want || want == api.OK && len(c) != 1<<choices || want != api.OK && len(c) != 0 {
			t.Errorf("Begin of %d choices: %d states, %v", choices, len(c), err)
		}
		for _, l := range [][]api.Label{nil, {{}}, {did(1, 0)}} {
			if k, err := hold.Accepts(a, l); k != 0 || err != want {
				t.Errorf("Accepts of %d choices, %v: %d, %v", choices, l, k, err)
			}
		}
	}
	a := read(t, `<sequence>`+invoke+burst(11)+`</sequence>`)
	c, err := hold.Begin(a)
	if len(c) != 1 || err != api.OK {
		t.Errorf("Begin: %d states, %v", len(c), err)
	}
	c, err = hold.After(a, c, did(1, 0))
	wantError(t, "After", c, err, api.ErrFull)
	for i, x := range []struct {
		l    []api.Label
		want api.Errno
	}{
		{nil, api.OK}, {[]api.Label{did(1, 0)}, api.ErrFull}, {[]api.Label{finished, did(1, 0)}, api.OK}, {[]api.Label{{}, did(1, 0)}, api.OK}, {[]api.Label{did(1, 1), finished}, api.ErrFull},
	} {
		if k, err := hold.Accepts(a, x.l); k != 0 || err != x.want {
			t.Errorf("Accepts %d: %d, %v; want %v", i, k, err, x.want)
		}
	}
}

// 26.1: labels rise, each once, and hang on the states as they are handed in.
func TestLabels(t *testing.T) {
	a := read(t, `<flow><invoke node="2" var="1"/><assign node="3" var="0" value="(div 1 $0)"/><pick node="4"><on node="7" message="2"><empty/></on><on node="6"><empty/></on><on node="5" message="0"><empty/></on></pick></flow>`)
	all := in("aaaa")
	all.Queue = [api.Msgs]int{1, 0, 1, 0}
	set := all
	set.Vars[0] = 1
	last := in("o")
	want := []api.Label{
		did(2, 0), did(2, 1), {Kind: api.Set, Node: 3}, got(5), got(7), rang(6), arrived(0), arrived(2), {Kind: api.Faulted, Node: 3, Arg: int(api.ErrZero)}, finished,
	}
	for _, l := range [][]life.State{{all, set, last}, {last, set, all}, {last, all, last, set, set}} {
		wantLabels(t, a, l, want...)
	}
	wantLabels(t, a, nil)

	// a list that is not closed is not closed for this
	b := read(t, `<sequence>`+choice(2)+invoke+`</sequence>`)
	wantLabels(t, b, []life.State{in("aaiii")})
	wantLabels(t, b, []life.State{in("aaiii"), in("aoioa")}, did(1, 0), did(1, 1))

	// what is no state has no moves
	bad := set
	bad.Vars[3] = api.MaxInt + 1
	wantLabels(t, a, []life.State{bad, last}, arrived(0), arrived(2), finished)
}

// 26.2: what is behind a label.
func TestAfter(t *testing.T) {
	a := read(t, `<sequence><flow>`+invoke+`<invoke node="3" var="1"/></flow>`+choice(2)+`</sequence>`)
	c, err := hold.Begin(a)
	wantCloud(t, "Begin", c, err, in("aaaaiii"))
	one, err := hold.After(a, c, did(3, 1))
	wantCloud(t, "After", one, err, in("aaaoiii", 0, 1))
	two, err := hold.After(a, one, did(1, 1))
	wantCloud(t, "After", two, err, in("aoooaii", 1, 1), in("ooooooi", 1, 1))
	ended := in("ooooooi", 1, 1)
	ended.Mode = token.Ended
	end, err := hold.After(a, two, finished)
	wantCloud(t, "After", end, err, ended)

	// state by state, and closed behind that
	both := []life.State{in("aaoaiii", 1), in("aaaaiii"), in("aaoaiii", 1)}
	c, err = hold.After(a, both, did(3, 0))
	wantCloud(t, "After", c, err, in("aoooaii", 1), in("aaaoiii"), in("ooooooi", 1))

	// none is no error; the list that is handed in is not closed first
	for _, x := range []api.Label{did(2, 0), did(1, 2), did(4, 0), finished, {Kind: 8}, {Kind: -1}, {Kind: api.Finished, Node: 5}} {
		c, err := hold.After(a, one, x)
		wantCloud(t, "After", c, err)
	}
	c, err = hold.After(a, []life.State{in("aoooaii")}, finished)
	wantCloud(t, "After", c, err)
	c, err = hold.After(a, nil, did(1, 0))
	wantCloud(t, "After", c, err)

	for _, x := range []api.Label{{}, {Node: 2}, {Arg: 1}} {
		for _, l := range [][]life.State{one, nil, many(hold.Most+1, "o")} {
			c, err := hold.After(a, l, x)
			wantError(t, "After", c, err, api.ErrArg)
		}
	}
}

// 26.2: the cloud that is handed in may be greater than Most; what is behind may not.
func TestAfterMost(t *testing.T) {
	a := read(t, invoke)
	l := many(2*hold.Most, "a")
	for i := range l {
		l[i].Vars[0], l[i].Vars[1] = i, 0
	}
	c, err := hold.After(a, l, did(1, 1))
	wantCloud(t, "After", c, err, in("o", 1))
	c, err = hold.After(a, many(hold.Most, "a"), did(1, 0))
	wantCloud(t, "After", c, err, many(hold.Most, "o")...)
	c, err = hold.After(a, many(hold.Most+1, "a"), did(1, 0))
	wantError(t, "After", c, err, api.ErrFull)
	c, err = hold.After(a, many(hold.Most+1, "a"), finished)
	wantCloud(t, "After", c, err)
}

// 26.2: how many labels can be seen one behind the other.
func TestAccepts(t *testing.T) {
	a := read(t, `<loop node="2" else="1" leaves="1" c0="(eq $0 1)">`+invoke+`<empty/></loop>`)
	ones := slices.Repeat([]api.Label{did(1, 1)}, 300)
	for i, x := range []struct {
		l    []api.Label
		want int
	}{
		{nil, 0},
		{ones, 300},
		{append(slices.Clone(ones), did(1, 0), finished), 302},
		{append(slices.Clone(ones), did(1, 0), did(1, 0), finished), 301},
		{append(slices.Clone(ones), finished), 300},
		{[]api.Label{did(1, 0), finished, finished}, 2},
		{[]api.Label{did(1, 0), {}, finished}, 1},
		{[]api.Label{{Node: 1}, did(1, 0)}, 0},
		{[]api.Label{did(1, 2)}, 0},
		{[]api.Label{{Kind: -1}}, 0},
		{[]api.Label{arrived(0)}, 0},
	} {
		if k, err := hold.Accepts(a, x.l); k != x.want || err != api.OK {
			t.Errorf("%d: %d, %v; want %d", i, k, err, x.want)
		}
	}
	a = read(t, `<receive node="4" message="3"/>`)
	for want, l := range [][]api.Label{{got(4)}, {arrived(3), finished}, {arrived(3), arrived(3), arrived(2)}, {arrived(3), arrived(3), arrived(3), arrived(3)}, {arrived(3), got(4), arrived(3), finished}} {
		if k, err := hold.Accepts(a, l); k != want || err != api.OK {
			t.Errorf("%v: %d, %v; want %d", l, k, err, want)
		}
	}
}

// 26.3: what is seen of a run, pick by pick.
func TestSeen(t *testing.T) {
	const both = `<sequence><if node="1" else="0" c1="(eq $0 1)"><invoke node="2" var="0"/><empty/></if><receive node="3" message="1"/></sequence>`
	for i, x := range []struct {
		program string
		picks   []int
		want    []api.Label
	}{
		{invoke, nil, nil},
		{invoke, []int{0}, []api.Label{did(1, 0)}},
		{invoke, []int{1}, []api.Label{did(1, 1)}},
		{invoke, []int{2}, []api.Label{did(1, 0)}},
		{invoke, []int{math.MaxInt}, []api.Label{did(1, 1)}},
		{invoke, []int{1, 5}, []api.Label{did(1, 1), finished}},
		{invoke, []int{0, 0, 0, 7, math.MaxInt}, []api.Label{did(1, 0), finished}},
		{"<empty/>", []int{9, 9}, []api.Label{finished}},
		{`<assign node="7" var="0" value="(mod 1 0)"/>`, []int{3, 3, 3}, []api.Label{{Kind: api.Faulted, Node: 7, Arg: int(api.ErrZero)}}},
		// The choice takes a pick, and is not seen.
		{both, []int{0}, nil},
		{both, []int{0, 1}, []api.Label{did(2, 1)}},
		{both, []int{0, 2, 1}, []api.Label{arrived(1), did(2, 1)}},
		{both, []int{1, 3, 0, 0, 0, 0, 0}, []api.Label{arrived(1), arrived(1), did(2, 0), got(3), finished}},
		{both, []int{1, 1, 1, 1, 1, 0, 0, 0, 0}, []api.Label{arrived(1), arrived(1), arrived(1), did(2, 1), got(3), finished}},
	} {
		if l, err := hold.Seen(read(t, x.program), x.picks); !slices.Equal(l, x.want) || err != api.OK {
			t.Errorf("%d: %v, %v; want %v", i, l, err, x.want)
		}
	}
	// A pick below 0 is none, also where nothing is picked any more.
	for _, picks := range [][]int{{-1}, {0, -1}, {0, 0, 0, 0, -1}, {math.MinInt, 0}, {0, -2, 0}} {
		if l, err := hold.Seen(read(t, invoke), picks); len(l) != 0 || err != api.ErrArg {
			t.Errorf("%v: %v, %v", picks, l, err)
		}
	}
}

// R3, R6: what is handed in stays as it is, spare room too, and answers are new memory.
func TestMemory(t *testing.T) {
	text := `<sequence>` + invoke + burst(3) + `</sequence>`
	a := read(t, text)
	l := append(make([]life.State, 0, 50), in("aaiii"), in("aoaaiiaiiaii"), in("aaiii"), in("oo"))
	was := slices.Clone(l[:cap(l)])
	calls := func() [][]life.State {
		b, _ := hold.Close(a, l)
		c, _ := hold.After(a, l, did(1, 0))
		d, _ := hold.Begin(a)
		e, _ := hold.Close(a, l[1:2])
		return [][]life.State{b, c, d, e}
	}
	first, second := calls(), calls()
	labels := hold.Labels(a, l)
	hold.Labels(a, l)[0] = api.Label{}
	for i, c := range first {
		if len(c) == 0 || !slices.Equal(c, second[i]) {
			t.Fatalf("%d: %v", i, c)
		}
		c = c[:cap(c)]
		for j := range c {
			c[j].Mode = 9
		}
	}
	for i, c := range calls() {
		if !slices.Equal(c, second[i]) {
			t.Errorf("%d: an answer is shared", i)
		}
	}
	if !slices.Equal(labels, hold.Labels(a, l)) || !slices.Equal(was, l[:cap(l)]) || !bpel.Same(a, read(t, text)) {
		t.Error("an answer is shared, or an argument is another one")
	}
	picks := append(make([]int, 0, 9), 1, 7)
	shown := append(make([]api.Label, 0, 9), did(1, 0), did(1, 1))
	hold.Accepts(a, shown)
	hold.Seen(a, picks)
	if !slices.Equal(shown[:9], []api.Label{did(1, 0), did(1, 1), {}, {}, {}, {}, {}, {}, {}}) || !slices.Equal(picks[:9], []int{1, 7, 0, 0, 0, 0, 0, 0, 0}) {
		t.Errorf("%v, %v", shown[:9], picks[:9])
	}
}

// P3: any numbers in states, labels and picks.
func TestAnyNumbers(t *testing.T) {
	r := rand.New(rand.NewSource(1))
	number := func() int {
		l := []int{math.MinInt, -1, 0, 1, 2, 3, 4, 7, 8, 40, math.MaxInt}
		return l[r.Intn(len(l))]
	}
	a := read(t, `<sequence>`+burst(3)+invoke+`</sequence>`)
	for range 1000 {
		l := make([]life.State, r.Intn(4))
		want := api.OK
		for i := range l {
			l[i] = in("aaaii")
			if r.Intn(3) == 0 {
				l[i].Status[r.Intn(20)], l[i].Vars[r.Intn(api.Vars)], l[i].Queue[r.Intn(api.Msgs)], l[i].Mode = number(), number(), number(), r.Intn(3)
			}
			if life.Check(a, l[i]) != api.OK {
				want = api.ErrArg
			}
		}
		c, err := hold.Close(a, l)
		if err != want || err != api.OK && len(c) > 0 {
			t.Fatalf("Close(%v): %v, %v; want %v", l, c, err, want)
		}
		x := api.Label{Kind: number(), Node: number(), Arg: number()}
		if x.Kind == api.Silent {
			want = api.ErrArg
		}
		if c, err := hold.After(a, l, x); err != want || err != api.OK && len(c) > 0 {
			t.Fatalf("After(%v, %v): %v, %v; want %v", l, x, c, err, want)
		}
		hold.Labels(a, l)
		if k, err := hold.Accepts(a, []api.Label{did(1, 0), x}); k < 1 || err != api.OK {
			t.Fatalf("Accepts(%v): %d, %v", x, k, err)
		}
		picks := []int{number(), number()}
		want = api.OK
		if slices.Min(picks) < 0 {
			want = api.ErrArg
		}
		if l, err := hold.Seen(a, picks); len(l) != 0 || err != want {
			t.Fatalf("Seen(%v): %v, %v", picks, l, err)
		}
	}
}
