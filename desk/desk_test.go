package desk_test

import (
	"fmt"
	"math"
	"slices"
	"strconv"
	"strings"
	"testing"

	"treenail/api"
	"treenail/chain"
	"treenail/chart"
	"treenail/desk"
	"treenail/engine"
	"treenail/life"
	"treenail/page"
	"treenail/plan"
	"treenail/sample"
)

// task is the document of a process of a task.
const task = `<process><start/><task var="1"/><end/><flow from="0" to="1"/><flow from="1" to="2"/></process>`

// written is the document of a process that must be right.
func written(t *testing.T, n api.Net) string {
	t.Helper()
	s, err := chart.Write(n)
	if err != api.OK {
		t.Fatalf("%v: %v", n, err)
	}
	return s
}

func deployed(t *testing.T, s string) *desk.Desk {
	t.Helper()
	d, l := desk.Deploy(s)
	if d == nil || len(l) > 0 {
		t.Fatalf("%s: %v", s, l)
	}
	return d
}

// step is what is written as open 7, send 7 1, pick 7 0, tick 7 2 or close 7.
func step(t *testing.T, text string) engine.Step {
	t.Helper()
	words := append(strings.Fields(text), "0")
	what, ok := map[string]int{"open": engine.Open, "send": engine.Send, "pick": engine.Pick, "tick": engine.Tick, "close": engine.Close}[words[0]]
	key, err := strconv.Atoi(words[1])
	n, other := strconv.Atoi(words[2])
	if !ok || err != nil || other != nil {
		t.Fatal(text)
	}
	return engine.Step{What: what, Key: key, N: n}
}

// steps are those that are written one behind the other, parted by commas.
func steps(t *testing.T, text string) []engine.Step {
	t.Helper()
	var l []engine.Step
	for _, x := range strings.Split(text, ", ") {
		l = append(l, step(t, x))
	}
	return l
}

// do does steps, none of which may be an error.
func do(t *testing.T, d *desk.Desk, text string) {
	t.Helper()
	for _, x := range steps(t, text) {
		if e := d.Do(x); e.Err != api.OK {
			t.Fatalf("%v: %v", x, e)
		}
	}
}

// wantSeen asks for what was seen of an instance, which the process accepts.
func wantSeen(t *testing.T, d *desk.Desk, key int, want ...api.Label) {
	t.Helper()
	if l, ok := d.Seen(key); !slices.Equal(l, want) || !ok {
		t.Errorf("Seen(%d): %v, %v; want %v", key, l, ok, want)
	}
	if ok, err := d.Holds(key); !ok || err != api.OK {
		t.Errorf("Holds(%d): %v, %v", key, ok, err)
	}
	if _, ok := d.State(key); !ok {
		t.Errorf("State(%d): none", key)
	}
}

// wantNone asks for there being no instance of a key.
func wantNone(t *testing.T, d *desk.Desk, key int) {
	t.Helper()
	if l, ok := d.Seen(key); len(l) != 0 || ok {
		t.Errorf("Seen(%d): %v, %v", key, l, ok)
	}
	if ok, err := d.Holds(key); ok || err != api.ErrNone {
		t.Errorf("Holds(%d): %v, %v", key, ok, err)
	}
	if s, ok := d.State(key); s != (life.State{}) || ok {
		t.Errorf("State(%d): %v, %v", key, s, ok)
	}
}

func did(node, r int) api.Label { return api.Label{Kind: api.Did, Node: node, Arg: r} }

func arrived(m int) api.Label { return api.Label{Kind: api.Arrived, Arg: m} }

func got(node int) api.Label { return api.Label{Kind: api.Got, Node: node} }

func rang(node int) api.Label { return api.Label{Kind: api.Rang, Node: node} }

var finished = api.Label{Kind: api.Finished}

// 28: the chapter's example.
func TestExample(t *testing.T) {
	d := deployed(t, task)
	do(t, d, "open 1, pick 1 0, pick 1 0")
	wantSeen(t, d, 1, did(1, 0), finished)
}

// 28.1: of what is no right process, Compile's reports and no desk.
func TestReports(t *testing.T) {
	for _, s := range []string{
		"", "x", "<process/>", "<x/>", "<process>", "<process><start/><x/><end/></process>", strings.Repeat("x", api.MaxText+1),
		"<process><start/><start/><end/></process>", `<process><start/><end/><flow from="0" to="2"/></process>`, "<process><start/></process>\xff",
	} {
		_, want := chain.Compile(s)
		if len(want) == 0 {
			t.Fatalf("%q is right", s)
		}
		if d, l := desk.Deploy(s); d != nil || !slices.Equal(l, want) {
			t.Errorf("Deploy(%.60q): %v, %v; want %v", s, d, l, want)
		}
		for _, script := range [][]engine.Step{nil, {{What: engine.Open}}} {
			if x, l := desk.Run(s, script); len(x) != 0 || !slices.Equal(l, want) {
				t.Errorf("Run(%.60q): %v, %v; want %v", s, x, l, want)
			}
		}
	}
}

// 28.1: the program's document, and which plan it has, the same ahead of and behind steps.
func TestTextAndKind(t *testing.T) {
	for kind, n := range map[int]api.Net{
		plan.Whole:  sample.Of("sxtxe", "0-1 1-2 1-3 2-3 3-4"),
		plan.Linked: sample.Of("snnttnne", "0-1 1-2 1-5 2-3 2-6 3-5 5-4 4-6 6-7"),
		plan.Ruled:  sample.Of("sntxe", "0-1 1-2 1-3 2-3 3-4"),
	} {
		s := written(t, n)
		d, other := deployed(t, s), deployed(t, s)
		want, _ := chain.Compile(s)
		for _, text := range []string{"open 1", "pick 1", "open 2", "close 1"} {
			if d.Kind() != kind || d.Text() != want || want == "" {
				t.Errorf("%s: %d, %s; want %d, %s", s, d.Kind(), d.Text(), kind, want)
			}
			do(t, d, text)
			do(t, other, text)
		}
		if other.Kind() != kind || other.Text() != want {
			t.Errorf("%s: %d, %s; want %d, %s", s, other.Kind(), other.Text(), kind, want)
		}
	}
}

// 28.1: the program is the one that is read from its document, though another text of the process may be compiled to the same.
func TestWrittenOtherwise(t *testing.T) {
	for _, s := range []string{task, strings.ReplaceAll(task, "<start/>", "<start></start>"), `<process><end/><task var="1"/><start/><flow from="1" to="0"/><flow from="2" to="1"/></process>`} {
		d := deployed(t, s)
		if d.Text() != `<invoke node="1" var="1"/>` || d.Kind() != plan.Whole {
			t.Errorf("%s: %s, %d", s, d.Text(), d.Kind())
		}
		do(t, d, "open 1, pick 1 1, pick 1 0")
		wantSeen(t, d, 1, did(1, 1), finished)
	}
}

// 28.2: what was seen since an instance was opened, till it is closed.
func TestSeen(t *testing.T) {
	// A fork of a task, of the message 0 and of a timer.
	d := deployed(t, written(t, sample.Of("sntmcne", "0-1 1-2 1-3 1-4 2-5 3-5 4-5 5-6")))
	wantNone(t, d, 7)
	do(t, d, "open 7")
	wantSeen(t, d, 7)
	do(t, d, "send 7 0, pick 7 1, open 8, send 8 0, send 8 0, pick 7 0, pick 8 0")
	wantSeen(t, d, 7, arrived(0), did(2, 1), got(3))
	wantSeen(t, d, 8, arrived(0), arrived(0), did(2, 0))
	wantNone(t, d, 9)
	// Ticks of its key are no labels of its.
	do(t, d, "tick 7 1, tick 8 1, pick 7 0, pick 7 0")
	wantSeen(t, d, 7, arrived(0), did(2, 1), got(3), rang(4), finished)
	// What is over may still be seen, and closed.
	do(t, d, "close 7")
	wantNone(t, d, 7)
	wantSeen(t, d, 8, arrived(0), arrived(0), did(2, 0))
	do(t, d, "open 7")
	wantSeen(t, d, 7)
	do(t, d, "pick 7 0, close 8, open 8, pick 8 1")
	wantSeen(t, d, 7, did(2, 0))
	wantSeen(t, d, 8, did(2, 1))
}

// 28.2: what is not seen: errors, and what is silent.
func TestNotSeen(t *testing.T) {
	d := deployed(t, written(t, sample.Of("stxtxe", "0-1 1-2 2-3 2-4 3-4 4-5")))
	wrong := func(text string, want api.Errno) {
		t.Helper()
		if e := d.Do(step(t, text)); e.Err != want || e.Label != (api.Label{}) {
			t.Errorf("%s: %v; want %v", text, e, want)
		}
	}
	wrong("pick 7 0", api.ErrNone)
	wrong("close 7", api.ErrNone)
	do(t, d, "open 7, pick 7 0")
	wrong("open 7", api.ErrSame)
	wrong("send 7 0", api.ErrState)
	wrong("pick 7 -1", api.ErrArg)
	wrong("tick 7 -1", api.ErrArg)
	wantSeen(t, d, 7, did(1, 0))
	// The choice is a step, and is not seen.
	do(t, d, "pick 7 0")
	wantSeen(t, d, 7, did(1, 0))
	wrong("close 8", api.ErrNone)
	do(t, d, "pick 7 0")
	wantSeen(t, d, 7, did(1, 0), finished)
	wrong("pick 7 0", api.ErrState)
	wantSeen(t, d, 7, did(1, 0), finished)
	wrong("open 1000", api.ErrArg)
	wantNone(t, d, 1000)
	wantNone(t, d, -1)
}

// 28.2: a fault is seen.
func TestFault(t *testing.T) {
	d := deployed(t, `<process><start/><assign var="0" value="(div 1 0)"/><end/><flow from="0" to="1"/><flow from="1" to="2"/></process>`)
	do(t, d, "open 7, pick 7 0")
	wantSeen(t, d, 7, api.Label{Kind: api.Faulted, Node: 1, Arg: int(api.ErrZero)})
	if e := d.Do(step(t, "pick 7 0")); e.Err != api.ErrState {
		t.Errorf("%v", e)
	}
}

// 28.2: where a cloud of the process is too great, Holds has that error; what was seen is told all the same.
func TestGreat(t *testing.T) {
	// A fork of five ways with two choices between nothing and nothing on each.
	nodes, flows := "stn", "0-1 1-2 "
	for i := range 5 {
		last := 2
		for range 2 - i/4 {
			split := len(nodes)
			nodes += "xx"
			flows += fmt.Sprintf("%d-%d %d-%d %d-%d ", last, split, split, split+1, split, split+1)
			last = split + 1
		}
		flows += fmt.Sprintf("%d-21 ", last)
	}
	d := deployed(t, written(t, sample.Of(nodes+"ne", flows+"21-22")))
	do(t, d, "open 7")
	wantSeen(t, d, 7)
	do(t, d, "pick 7 1")
	if l, ok := d.Seen(7); !slices.Equal(l, []api.Label{did(1, 1)}) || !ok {
		t.Errorf("%v, %v", l, ok)
	}
	if ok, err := d.Holds(7); ok || err != api.ErrFull {
		t.Errorf("%v, %v", ok, err)
	}
}

// 28.1: the entries of all steps, errors as well.
func TestRun(t *testing.T) {
	script := steps(t, "open 7, pick 7 1, open 7, pick 8 0, pick 7 0, tick 3 2, close 7, close 7")
	want := []engine.Entry{{Key: 7}, {Key: 7, Label: did(1, 1)}, {Key: 7, Err: api.ErrSame}, {Key: 8, Err: api.ErrNone}, {Key: 7, Label: finished}, {Key: 3}, {Key: 7}, {Key: 7, Err: api.ErrNone}}
	if l, bad := desk.Run(task, script); !slices.Equal(l, want) || len(bad) != 0 {
		t.Errorf("%v, %v; want %v", l, bad, want)
	}
	if l, bad := desk.Run(task, nil); len(l) != 0 || len(bad) != 0 {
		t.Errorf("%v, %v", l, bad)
	}
	d := deployed(t, task)
	for i, x := range script {
		if e := d.Do(x); e != want[i] {
			t.Errorf("%v: %v; want %v", x, e, want[i])
		}
	}
}

// 28: a nil desk, and one that Deploy did not make.
func TestNil(t *testing.T) {
	for _, d := range []*desk.Desk{nil, {}} {
		if d.Text() != "" || d.Kind() != 0 {
			t.Errorf("%q, %d", d.Text(), d.Kind())
		}
		for _, what := range []int{engine.Open, engine.Send, engine.Pick, engine.Tick, engine.Close, 0, math.MaxInt} {
			if e := d.Do(engine.Step{What: what, Key: 7, N: 1}); e != (engine.Entry{Err: api.ErrState}) {
				t.Errorf("%d: %v", what, e)
			}
		}
		for _, key := range []int{0, 7, -1, math.MaxInt} {
			wantNone(t, d, key)
		}
	}
}

// R3, R6: desks share nothing, answers are new memory, and what is asked changes nothing.
func TestMemory(t *testing.T) {
	script := append(make([]engine.Step, 0, 20), steps(t, "open 7, pick 7 1, pick 7 0")...)
	was := slices.Clone(script[:20])
	d, other := deployed(t, task), deployed(t, task)
	do(t, d, "open 7, pick 7 1, pick 7 0")
	for range 2 {
		l, _ := d.Seen(7)
		clear(l[:cap(l)])
		entries, _ := desk.Run(task, script)
		clear(entries[:cap(entries)])
		_, reports := desk.Deploy("<process/>")
		clear(reports[:cap(reports)])
	}
	wantSeen(t, d, 7, did(1, 1), finished)
	wantNone(t, other, 7)
	if l, _ := desk.Run(task, script); !slices.Equal(l, []engine.Entry{{Key: 7}, {Key: 7, Label: did(1, 1)}, {Key: 7, Label: finished}}) || !slices.Equal(script[:20], was) {
		t.Errorf("%v, %v", l, script[:20])
	}
	if _, l := desk.Deploy("<process/>"); !slices.Equal(l, []chain.Report{{Part: 2, Place: 0, Code: 3}}) {
		t.Errorf("%v", l)
	}
}

// P3: any numbers.
func TestEnds(t *testing.T) {
	numbers := []int{math.MinInt, -1, 0, 1, 2, 3, 4, 5, 6, 999, 1000, api.MaxInt, math.MaxInt}
	d := deployed(t, task)
	for _, what := range numbers {
		for _, key := range numbers {
			for _, n := range numbers {
				d.Do(engine.Step{What: what, Key: key, N: n})
			}
			l, ok := d.Seen(key)
			_, is := d.State(key)
			if holds, err := d.Holds(key); holds != ok || is != ok || (err == api.OK) != ok {
				t.Fatalf("%d: %v, %v, %v, %v, %v", key, l, ok, is, holds, err)
			}
		}
	}
	if a, _, err := page.Read(d.Text()); err != api.OK || d.Kind() != plan.Whole {
		t.Errorf("%v, %v", a, err)
	}
}
