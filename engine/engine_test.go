package engine_test

import (
	"fmt"
	"math"
	"slices"
	"strconv"
	"strings"
	"testing"

	"treenail/api"
	"treenail/bpel"
	"treenail/engine"
	"treenail/life"
	"treenail/page"
	"treenail/token"
)

const end = 1 << 40

// choosing waits for the message 1, or for its timer.
const choosing = `<pick node="1"><on node="2" message="1"><invoke node="3" var="0"/></on><on node="4"><empty/></on></pick>`

// ringing waits for a timer, then for another one.
const ringing = `<sequence><wait node="1"/><wait node="2"/></sequence>`

func program(t *testing.T, s string) bpel.Act {
	t.Helper()
	a, at, err := page.Read(s)
	if err != api.OK {
		t.Fatalf("%s: %v at %d", s, err, at)
	}
	return a
}

func started(t *testing.T, s string) *engine.Engine {
	t.Helper()
	g, err := engine.New(program(t, s))
	if err != api.OK {
		t.Fatalf("%s: %v", s, err)
	}
	return g
}

// step is what is written as open 7, send 7 1, pick 7 0, tick 0 2 or close 7; end is the greatest time.
func step(text string) engine.Step {
	words := append(strings.Fields(text), "0", "0")
	number := func(word string) int {
		less, isEnd := strings.CutPrefix(word, "end")
		n, _ := strconv.Atoi(less)
		if isEnd {
			n += end
		}
		return n
	}
	what := map[string]int{"open": engine.Open, "send": engine.Send, "pick": engine.Pick, "tick": engine.Tick, "close": engine.Close}[words[0]]
	return engine.Step{What: what, Key: number(words[1]), N: number(words[2])}
}

// told is an entry without its key.
func told(e engine.Entry) string {
	kinds := []string{"", "did", "set", "got", "rang", "arrived", "faulted", "finished"}
	switch {
	case e.Err == api.OK && e.Label == (api.Label{}):
		return "ok"
	case e.Label == (api.Label{}):
		return e.Err.Error()
	case e.Err == api.OK && e.Label.Kind > 0 && e.Label.Kind < len(kinds):
		return fmt.Sprint(kinds[e.Label.Kind], " ", e.Label.Node, " ", e.Label.Arg)
	}
	return fmt.Sprint(e)
}

// line is a step, and what its entry tells.
type line struct{ text, want string }

// wantSteps does steps, one behind the other.
func wantSteps(t *testing.T, g *engine.Engine, lines ...line) {
	t.Helper()
	for i, l := range lines {
		x := step(l.text)
		e := g.Step(x)
		if got := told(e); got != l.want || e.Key != x.Key {
			t.Errorf("%d: %s: %d, %s; want %s", i, l.text, e.Key, got, l.want)
		}
	}
}

// sight is all that can be told of an engine but its log.
func sight(g *engine.Engine, keys ...int) string {
	text := ""
	for _, key := range keys {
		s, is := g.State(key)
		w, ok := g.Waiting(key)
		text += fmt.Sprintln(key, is, s, w, ok, g.Free(key))
	}
	return text
}

// 24: the chapter's example.
func TestExample(t *testing.T) {
	wantSteps(t, started(t, `<invoke node="1" var="0"/>`), line{"open 1", "ok"}, line{"pick 1 0", "did 1 0"}, line{"send 2 0", "error 6"})
}

// 24.1: the errors of steps, the first that is so, behind what was done; 24.5: behind an error all instances are as they were.
func TestErrors(t *testing.T) {
	full := []string{"open 0", "open 1", "open 2", "open 3", "open 4", "open 5", "open 6", "open 999"}
	three := []string{"open 7", "send 7 1", "send 7 1", "send 7 1"}
	over := []string{"open 7", "send 7 1", "tick 0 2", "pick 7 1", "pick 7 0"}
	for _, c := range []struct {
		ahead []string
		text  string
		want  string
	}{
		{nil, "open 0", "ok"}, {nil, "open 999", "ok"}, {nil, "open -1", "error 1"}, {nil, "open 1000", "error 1"}, {nil, "open 7 -5", "ok"},
		{full, "open 7", "error 5"}, {full, "open 999", "error 8"}, {full, "open 1000", "error 1"}, {append(slices.Clone(full), "close 3"), "open 7", "ok"},
		{three, "open 7", "error 8"},
		{nil, "send 7 1", "error 6"}, {nil, "send 7 4", "error 1"}, {nil, "send 7 -1", "error 1"}, {nil, "send 1000 1", "error 6"}, {nil, "send -1 1", "error 6"},
		{three, "send 7 1", "error 5"}, {three, "send 8 1", "error 6"}, {three, "send 7 4", "error 1"}, {three, "send 8 4", "error 1"}, {three[:3], "send 7 1", "arrived 0 1"},
		{three, "send 7 0", "error 7"}, {three, "send 7 2", "error 7"}, {three, "send 7 3", "error 7"},
		{over, "send 7 1", "error 7"}, {append(slices.Clone(three), "tick 0 2", "pick 7 1", "pick 7 0"), "send 7 1", "error 5"},
		{nil, "pick 7 0", "error 6"}, {nil, "pick 7 -1", "error 1"}, {nil, "pick -1 0", "error 6"}, {nil, "pick 1000 0", "error 6"},
		{three[:1], "pick 7 0", "error 7"}, {three[:1], "pick 7 -1", "error 1"}, {three[:1], "pick 8 0", "error 6"}, {three, "pick 7 0", "got 2 0"},
		{over, "pick 7 0", "error 7"}, {over, "pick 7 -1", "error 1"},
		{nil, "tick 0 0", "ok"}, {nil, "tick 0 end", "ok"}, {nil, "tick 0 end+1", "error 1"}, {nil, "tick 0 -1", "error 1"}, {nil, "tick -9 1", "ok"},
		{[]string{"tick 0 1"}, "tick 0 end", "error 40"}, {[]string{"tick 0 end"}, "tick 0 1", "error 40"}, {[]string{"open 7", "tick 0 1"}, "tick 7 end", "error 40"},
		{nil, "close 7", "error 6"}, {nil, "close -1", "error 6"}, {three, "close 8", "error 6"}, {three, "close 7 -3", "ok"}, {over, "close 7", "ok"},
		{append(slices.Clone(three), "close 7"), "close 7", "error 6"}, {append(slices.Clone(three), "close 7"), "send 7 1", "error 6"},
		{append(slices.Clone(three), "close 7"), "pick 7 0", "error 6"}, {append(slices.Clone(three), "close 7"), "open 7", "ok"},
	} {
		g := started(t, choosing)
		for _, text := range c.ahead {
			if e := g.Step(step(text)); e.Err != api.OK {
				t.Fatalf("%v, %s: %v", c.ahead, text, e)
			}
		}
		was := sight(g, 0, 1, 7, 8, 999)
		wantSteps(t, g, line{c.text, c.want})
		if strings.HasPrefix(c.want, "error") && sight(g, 0, 1, 7, 8, 999) != was {
			t.Errorf("%v, %s: %s, want %s", c.ahead, c.text, sight(g, 0, 1, 7, 8, 999), was)
		}
		if l := g.Log(); len(l) != len(c.ahead)+1 {
			t.Errorf("%v, %s: %v", c.ahead, c.text, l)
		}
	}
}

// 24.1: steps that are none.
func TestOtherSteps(t *testing.T) {
	g := started(t, choosing)
	wantSteps(t, g, line{"open 7", "ok"}, line{"send 7 1", "arrived 0 1"})
	was := sight(g, 7)
	for _, what := range []int{0, 6, -1, math.MinInt, math.MaxInt} {
		if e := g.Step(engine.Step{What: what, Key: 7, N: 1}); e != (engine.Entry{Key: 7, Err: api.ErrArg}) {
			t.Errorf("%d: %v", what, e)
		}
	}
	if got := sight(g, 7); got != was {
		t.Errorf("%s, want %s", got, was)
	}
}

// 24.1: the numbers of what is told.
func TestNumbers(t *testing.T) {
	if l := []int{engine.Open, engine.Send, engine.Pick, engine.Tick, engine.Close, engine.Delay}; !slices.Equal(l, []int{1, 2, 3, 4, 5, 2}) {
		t.Errorf("%v", l)
	}
}

// 24.1: the free move at the place N mod how many there are is done.
func TestPlaces(t *testing.T) {
	flow := `<flow><invoke node="1" var="0"/><receive node="2" message="3"/><wait node="3"/><invoke node="4" var="1"/></flow>`
	rests := []string{"did 1 0", "did 1 1", "got 2 0", "rang 3 0", "did 4 0", "did 4 1"}
	for n := range 14 {
		g := started(t, flow)
		wantSteps(t, g, line{"open 5", "ok"}, line{"send 5 3", "arrived 0 3"}, line{"tick 0 2", "ok"}, line{fmt.Sprint("pick 5 ", n), rests[n%6]})
	}
	for n, want := range []string{"did 1 0", "did 1 1", "did 4 0", "did 4 1", "did 1 0"} {
		wantSteps(t, started(t, flow), line{"open 5", "ok"}, line{fmt.Sprint("pick 5 ", n), want})
	}
	g := started(t, flow)
	g.Step(step("open 5"))
	if e := g.Step(engine.Step{What: engine.Pick, Key: 5, N: math.MaxInt}); told(e) != []string{"did 1 0", "did 1 1", "did 4 0", "did 4 1"}[math.MaxInt%4] {
		t.Errorf("%v", e)
	}
}

// 24.1: which moves are free: no arrivals; timers only when the alarm is due.
func TestFree(t *testing.T) {
	g := started(t, choosing)
	got := life.Move{Label: api.Label{Kind: api.Got, Node: 2}}
	rang := life.Move{Arg: 1, Label: api.Label{Kind: api.Rang, Node: 4}}
	want := func(l ...life.Move) {
		t.Helper()
		if free := g.Free(7); !slices.Equal(free, l) {
			t.Errorf("Free: %v, want %v", free, l)
		}
	}
	want()
	g.Step(step("open 7"))
	want()
	g.Step(step("tick 0 1"))
	want()
	g.Step(step("send 7 1"))
	want(got)
	g.Step(step("tick 0 1"))
	want(got, rang)
	g.Step(step("tick 0 5"))
	want(got, rang)
	g.Step(step("pick 7 1"))
	want(life.Move{Label: api.Label{Kind: api.Finished}})
	g.Step(step("pick 7"))
	want()
}

// 24.1: an alarm is set anew when an instance is opened, and behind each of its moves but arrivals, whatever is seen of them; not behind errors.
func TestAlarm(t *testing.T) {
	for name, c := range map[string]struct {
		program string
		lines   []line
	}{
		"each ring": {ringing, []line{{"open 7", "ok"}, {"pick 7", "error 7"}, {"tick 0 1", "ok"}, {"pick 7", "error 7"}, {"tick 0 1", "ok"}, {"pick 7", "rang 1 0"},
			{"pick 7", "error 7"}, {"tick 0 1", "ok"}, {"pick 7", "error 7"}, {"tick 0 1", "ok"}, {"pick 7", "rang 2 0"}, {"pick 7", "finished 0 0"}}},
		"a long tick is not carried over": {ringing, []line{{"open 7", "ok"}, {"tick 0 9", "ok"}, {"pick 7", "rang 1 0"}, {"pick 7", "error 7"}, {"tick 0 2", "ok"}, {"pick 7", "rang 2 0"}}},
		"opened late":                     {ringing, []line{{"tick 0 9", "ok"}, {"open 7", "ok"}, {"pick 7", "error 7"}, {"tick 0 2", "ok"}, {"pick 7", "rang 1 0"}}},
		"an arrival leaves it": {choosing, []line{{"open 7", "ok"}, {"tick 0 1", "ok"}, {"send 7 1", "arrived 0 1"}, {"tick 0 1", "ok"}, {"send 7 1", "arrived 0 1"},
			{"pick 7 1", "rang 4 0"}}},
		"errors leave it": {ringing, []line{{"open 7", "ok"}, {"tick 0 1", "ok"}, {"open 7", "error 8"}, {"pick 7", "error 7"}, {"pick 7 -1", "error 1"}, {"send 7 1", "error 7"},
			{"tick 0 -1", "error 1"}, {"close 8", "error 6"}, {"tick 0 1", "ok"}, {"pick 7", "rang 1 0"}}},
		"a task": {`<flow><invoke node="1" var="0"/><wait node="2"/></flow>`, []line{{"open 7", "ok"}, {"tick 0 1", "ok"}, {"pick 7", "did 1 0"}, {"tick 0 1", "ok"}, {"pick 7", "error 7"},
			{"tick 0 1", "ok"}, {"pick 7", "rang 2 0"}}},
		"a message that is taken": {`<flow><receive node="1" message="0"/><wait node="2"/></flow>`, []line{{"open 7", "ok"}, {"send 7 0", "arrived 0 0"}, {"tick 0 1", "ok"}, {"pick 7", "got 1 0"},
			{"tick 0 1", "ok"}, {"pick 7", "error 7"}, {"tick 0 1", "ok"}, {"pick 7", "rang 2 0"}}},
		"a choice": {`<flow><if node="1" else="1" c0="(eq 0 0)"><empty/><empty/></if><wait node="2"/></flow>`, []line{{"open 7", "ok"}, {"tick 0 1", "ok"}, {"pick 7", "ok"},
			{"tick 0 1", "ok"}, {"pick 7", "error 7"}, {"tick 0 1", "ok"}, {"pick 7", "rang 2 0"}}},
		"others leave it": {ringing, []line{{"open 7", "ok"}, {"tick 0 1", "ok"}, {"open 8", "ok"}, {"tick 0 1", "ok"}, {"pick 8", "error 7"}, {"pick 7", "rang 1 0"},
			{"tick 0 1", "ok"}, {"pick 8", "rang 1 0"}, {"pick 7", "error 7"}, {"close 8", "ok"}, {"tick 0 1", "ok"}, {"pick 7", "rang 2 0"}}},
		"closed and opened": {ringing, []line{{"open 7", "ok"}, {"tick 0 2", "ok"}, {"close 7", "ok"}, {"open 7", "ok"}, {"pick 7", "error 7"}, {"tick 0 2", "ok"}, {"pick 7", "rang 1 0"}}},
	} {
		t.Run(name, func(t *testing.T) { wantSteps(t, started(t, c.program), c.lines...) })
	}
}

// 24.1: where the clock can set no alarm, there is none: nothing rings any more.
func TestEndOfTime(t *testing.T) {
	last := []line{{"pick 7", "error 7"}, {"tick 0 1", "error 40"}, {"pick 7", "error 7"}}
	wantSteps(t, started(t, ringing), append([]line{{"tick 0 end-2", "ok"}, {"open 7", "ok"}, {"tick 0 2", "ok"}, {"pick 7", "rang 1 0"}}, last...)...)
	wantSteps(t, started(t, ringing), append([]line{{"tick 0 end-1", "ok"}, {"open 7", "ok"}, {"tick 0 1", "ok"}}, last...)...)
	wantSteps(t, started(t, ringing), append([]line{{"tick 0 end", "ok"}, {"open 7", "ok"}}, last...)...)
	// The alarm that was due is gone when it is set anew, and closing does not miss it.
	g := started(t, `<flow><invoke node="1" var="0"/><wait node="2"/></flow>`)
	wantSteps(t, g, line{"open 7", "ok"}, line{"tick 0 end", "ok"}, line{"pick 7 2", "rang 2 0"}, line{"pick 7 1", "did 1 1"}, line{"close 7", "ok"}, line{"open 7", "ok"}, line{"pick 7 2", "did 1 0"})
	g = started(t, `<flow><invoke node="1" var="0"/><wait node="2"/></flow>`)
	wantSteps(t, g, line{"open 7", "ok"}, line{"tick 0 end", "ok"}, line{"pick 7 1", "did 1 1"}, line{"pick 7", "error 7"})
}

// 24.1: a closed instance's alarm is gone, so that there is room for those of others, however many there were.
func TestManyAlarms(t *testing.T) {
	g := started(t, ringing)
	for key := range 200 {
		open, pick, gone := fmt.Sprint("open ", key), fmt.Sprint("pick ", key), fmt.Sprint("close ", key)
		wantSteps(t, g, line{open, "ok"}, line{pick, "error 7"}, line{"tick 0 2", "ok"}, line{pick, "rang 1 0"}, line{gone, "ok"})
		if due, keys := g.Due(), g.Keys(); len(due) != 0 || len(keys) != 0 {
			t.Fatalf("%d: %v, %v", key, due, keys)
		}
	}
}

// 24: an engine is an office and a clock in one: it tells what these tell.
func TestOfficeAndClock(t *testing.T) {
	g := started(t, ringing)
	wantSteps(t, g, line{"open 7", "ok"}, line{"tick 0 1", "ok"}, line{"open 3", "ok"}, line{"tick 0 1", "ok"})
	left, ok := g.Left(3)
	if !slices.Equal(g.Keys(), []int{3, 7}) || !slices.Equal(g.Due(), []int{7}) || g.Now() != 2 || left != 1 || !ok {
		t.Errorf("%v, %v, %d, %d, %v", g.Keys(), g.Due(), g.Now(), left, ok)
	}
	wantSteps(t, g, line{"pick 7", "rang 1 0"}, line{"close 3", "ok"})
	if left, ok := g.Left(7); !slices.Equal(g.Keys(), []int{7}) || len(g.Due()) != 0 || left != 2 || !ok {
		t.Errorf("%v, %v, %d, %v", g.Keys(), g.Due(), left, ok)
	}
}

// 24.1, 24.4: a message is put into the box of its key, and taken from it by the move that takes it, of any kind.
func TestBoxes(t *testing.T) {
	for _, c := range []string{
		`<receive node="1" message="2"/>`,
		`<pick node="3"><on node="1" message="2"><empty/></on><on node="4" message="0"><empty/></on></pick>`,
		`<rules><process><start/><catch message="2"/><end/><flow from="0" to="1"/><flow from="1" to="2"/></process></rules>`,
	} {
		g := started(t, c)
		wantBox := func(key int, want [api.Msgs]int, is bool) {
			t.Helper()
			if w, ok := g.Waiting(key); w != want || ok != is {
				t.Errorf("%s: Waiting(%d): %v, %v", c, key, w, ok)
			}
			if s, ok := g.State(key); s.Queue != want || ok != is {
				t.Errorf("%s: State(%d): %v, %v", c, key, s.Queue, ok)
			}
		}
		wantBox(7, [api.Msgs]int{}, false)
		wantSteps(t, g, line{"open 7", "ok"}, line{"open 8", "ok"})
		wantBox(7, [api.Msgs]int{}, true)
		wantSteps(t, g, line{"send 7 2", "arrived 0 2"}, line{"send 8 2", "arrived 0 2"}, line{"send 7 2", "arrived 0 2"})
		wantBox(7, [api.Msgs]int{0, 0, 2}, true)
		wantBox(8, [api.Msgs]int{0, 0, 1}, true)
		wantSteps(t, g, line{"pick 7", "got 1 0"})
		wantBox(7, [api.Msgs]int{0, 0, 1}, true)
		wantBox(8, [api.Msgs]int{0, 0, 1}, true)
		wantSteps(t, g, line{"pick 7", "finished 0 0"})
		wantBox(7, [api.Msgs]int{0, 0, 1}, true)
		wantSteps(t, g, line{"close 7", "ok"})
		wantBox(7, [api.Msgs]int{}, false)
		wantSteps(t, g, line{"open 7", "ok"})
		wantBox(7, [api.Msgs]int{}, true)
	}
}

// 24.1: an instance begins with its first state, and goes on by layer 20's moves.
func TestStates(t *testing.T) {
	a := program(t, `<sequence><invoke node="1" var="2"/><assign node="2" var="0" value="(div 1 $2)"/><wait node="3"/></sequence>`)
	g, _ := engine.New(a)
	g.Step(step("open 7"))
	first, _ := life.Start(a)
	if s, ok := g.State(7); s != first || !ok {
		t.Errorf("%v, %v", s, ok)
	}
	wantSteps(t, g, line{"pick 7 1", "did 1 1"}, line{"pick 7", "set 2 0"}, line{"open 8", "ok"}, line{"pick 8", "did 1 0"}, line{"pick 8", "faulted 2 41"}, line{"pick 8", "error 7"})
	second, _, _ := life.Do(a, first, 1)
	third, _, _ := life.Do(a, second, 0)
	if s, ok := g.State(7); s != third || !ok || s.Vars != [api.Vars]int{1, 0, 1} {
		t.Errorf("%v, %v", s, ok)
	}
	if s, ok := g.State(8); s.Mode != token.Broken || !ok {
		t.Errorf("%v, %v", s, ok)
	}
	for _, key := range []int{0, 6, 9, -1, 1000, math.MinInt, math.MaxInt} {
		s, ok := g.State(key)
		w, is := g.Waiting(key)
		if s != (life.State{}) || ok || w != [api.Msgs]int{} || is || len(g.Free(key)) != 0 {
			t.Errorf("%d: %v, %v, %v, %v, %v", key, s, ok, w, is, g.Free(key))
		}
	}
}

// 24.1: the log has of each step one entry, that which was told.
func TestLog(t *testing.T) {
	texts := []string{"open 7", "open 7", "send 7 1", "send 8 1", "pick 7", "pick 7 1", "pick 7", "tick 3 2", "tick 4 -1", "other 5", "close 7", "close -2"}
	g := started(t, choosing)
	if l := g.Log(); len(l) != 0 {
		t.Errorf("%v", l)
	}
	var want []engine.Entry
	var steps []engine.Step
	for _, text := range texts {
		steps = append(steps, step(text))
		want = append(want, g.Step(step(text)))
		if l := g.Log(); !slices.Equal(l, want) {
			t.Errorf("%v, want %v", l, want)
		}
	}
	kept := slices.Clone(steps)
	if l, err := engine.Run(program(t, choosing), steps); !slices.Equal(l, want) || err != api.OK || !slices.Equal(steps, kept) {
		t.Errorf("Run: %v, %v", l, err)
	}
	if l, err := engine.Run(program(t, choosing), nil); len(l) != 0 || err != api.OK {
		t.Errorf("Run: %v, %v", l, err)
	}
}

// 24.1: New and Run tell bpel.Check's error.
func TestWrongPrograms(t *testing.T) {
	twice := bpel.Act{Kind: bpel.Sequence, Kids: []bpel.Act{{Kind: bpel.Wait, Node: 1}, {Kind: bpel.Wait, Node: 1}}}
	deep := bpel.Act{Kind: bpel.Empty}
	for range 40 {
		deep = bpel.Act{Kind: bpel.Sequence, Kids: []bpel.Act{deep, {Kind: bpel.Empty}}}
	}
	for i, c := range []struct {
		a    bpel.Act
		want api.Errno
	}{{bpel.Act{}, api.ErrForm}, {bpel.Act{Kind: bpel.On, Kids: []bpel.Act{{Kind: bpel.Empty}}}, api.ErrForm}, {twice, api.ErrSame}, {deep, api.ErrLong}} {
		if g, err := engine.New(c.a); g != nil || err != c.want || err != bpel.Check(c.a) {
			t.Errorf("%d: New: %v, %v", i, g, err)
		}
		if l, err := engine.Run(c.a, []engine.Step{step("open 7")}); len(l) != 0 || err != c.want {
			t.Errorf("%d: Run: %v, %v", i, l, err)
		}
	}
}

// R3: what is told is new memory.
func TestMemory(t *testing.T) {
	g := started(t, `<flow><invoke node="1" var="0"/><invoke node="2" var="0"/></flow>`)
	for _, text := range []string{"open 7", "pick 7", "tick 0 1"} {
		g.Step(step(text))
	}
	log, free := g.Log(), g.Free(7)
	wasLog, wasFree := slices.Clone(log), slices.Clone(free)
	for _, l := range [][]engine.Entry{log, append(log, engine.Entry{Key: 5})} {
		l[0].Key = 77
	}
	for i := range log[:cap(log)] {
		log[:cap(log)][i].Key = 78
	}
	free[0].Arg = 79
	if l := g.Log(); !slices.Equal(l, wasLog) {
		t.Errorf("%v", l)
	}
	if l := g.Free(7); !slices.Equal(l, wasFree) {
		t.Errorf("%v", l)
	}
	g.Step(step("pick 7"))
	if l := g.Log(); !slices.Equal(l[:3], wasLog) || len(l) != 4 {
		t.Errorf("%v", l)
	}
}

// 24: of a nil engine Step tells ErrState alone, and all else is nothing.
func TestNil(t *testing.T) {
	var g *engine.Engine
	for what := -1; what < 8; what++ {
		if e := g.Step(engine.Step{What: what, Key: 7, N: -1}); e != (engine.Entry{Err: api.ErrState}) {
			t.Errorf("%d: %v", what, e)
		}
	}
	s, ok := g.State(7)
	w, is := g.Waiting(7)
	if s != (life.State{}) || ok || w != [api.Msgs]int{} || is || len(g.Free(7)) != 0 || len(g.Log()) != 0 {
		t.Errorf("%v, %v, %v, %v, %v, %v", s, ok, w, is, g.Free(7), g.Log())
	}
}

// P3: no call panics, of an engine that New did not make, and of any numbers.
func TestEnds(t *testing.T) {
	numbers := []int{math.MinInt, -1, 0, 1, 2, 3, 4, 5, 6, 999, 1000, end, end + 1, math.MaxInt}
	made := started(t, choosing)
	for _, g := range []*engine.Engine{nil, {}, made} {
		for _, what := range numbers {
			for _, key := range numbers {
				for _, n := range numbers {
					g.Step(engine.Step{What: what, Key: key, N: n})
				}
				g.State(key)
				g.Free(key)
				g.Waiting(key)
			}
		}
		g.Log()
	}
	var g engine.Engine
	if e := g.Step(step("open 7")); e != (engine.Entry{Key: 7, Err: api.ErrState}) {
		t.Errorf("%v", e)
	}
}
