package store_test

import (
	"fmt"
	"math"
	"slices"
	"strconv"
	"strings"
	"testing"

	"treenail/api"
	"treenail/bpel"
	"treenail/engine"
	"treenail/journal"
	"treenail/life"
	"treenail/page"
	"treenail/store"
)

const end = 1 << 40

// room is how many steps a journal has room for.
const room = 1176

// working is a task, then a message, then a timer.
const working = `<sequence><invoke node="1" var="0"/><receive node="2" message="1"/><wait node="3"/></sequence>`

func program(t *testing.T, s string) bpel.Act {
	t.Helper()
	a, at, err := page.Read(s)
	if err != api.OK {
		t.Fatalf("%s: %v at %d", s, err, at)
	}
	return a
}

func made(t *testing.T, s string) *store.Store {
	t.Helper()
	x, err := store.New(program(t, s))
	if err != api.OK {
		t.Fatalf("%s: %v", s, err)
	}
	return x
}

// step is what is written as open 7, send 7 1, pick 7 0, tick 0 2, close 7 or other 7.
func step(text string) engine.Step {
	words := append(strings.Fields(text), "0", "0")
	key, _ := strconv.Atoi(words[1])
	n, _ := strconv.Atoi(words[2])
	what := map[string]int{"open": engine.Open, "send": engine.Send, "pick": engine.Pick, "tick": engine.Tick, "close": engine.Close, "other": 9}[words[0]]
	return engine.Step{What: what, Key: key, N: n}
}

// steps are those that are written one behind the other, parted by commas.
func steps(text string) []engine.Step {
	var l []engine.Step
	for _, x := range strings.Split(text, ", ") {
		if x != "" {
			l = append(l, step(x))
		}
	}
	return l
}

func encoded(t *testing.T, l []engine.Step) string {
	t.Helper()
	j, err := journal.Encode(l)
	if err != api.OK {
		t.Fatalf("%d steps: %v", len(l), err)
	}
	return j
}

// do does what is written: steps as step has them, and sync, crash 3, recover; none may be an error but in a step's entry.
func do(t *testing.T, s *store.Store, text string) {
	t.Helper()
	for _, x := range strings.Split(text, ", ") {
		var err api.Errno
		words := append(strings.Fields(x), "0")
		switch words[0] {
		case "0": // nothing is written
		case "sync":
			err = s.Sync()
		case "crash":
			keep, _ := strconv.Atoi(words[1])
			err = s.Crash(keep)
		case "recover":
			_, err = s.Recover()
		default:
			_, err = s.Do(step(x))
		}
		if err != api.OK {
			t.Fatalf("%s: %s: %v", text, x, err)
		}
	}
}

// keys are those at which is looked.
var keys = []int{-1, 0, 1, 2, 7, 8, 999, 1000}

// sight is all that can be told of a store.
func sight(s *store.Store) string {
	text := fmt.Sprintf("%v %q %d %d %v", s.Up(), s.Bytes(), s.Safe(), s.Steps(), s.Log())
	for _, key := range keys {
		state, ok := s.State(key)
		text += fmt.Sprintln(key, state, ok)
	}
	return text
}

// wantStore holds all that can be told of a store against the steps that it has done, if it is up, its journal, and how many of its bytes are safe.
func wantStore(t *testing.T, s *store.Store, a bpel.Act, up bool, done []engine.Step, j string, safe int) {
	t.Helper()
	if s.Up() != up || s.Bytes() != j || s.Safe() != safe || s.Steps() != len(done) {
		t.Fatalf("up: %v, %q, %d safe, %d steps; want %v, %q, %d, %d", s.Up(), s.Bytes(), s.Safe(), s.Steps(), up, j, safe, len(done))
	}
	g, _ := engine.New(a)
	for _, x := range done {
		g.Step(x)
	}
	if l := s.Log(); !slices.Equal(l, g.Log()) {
		t.Fatalf("Log: %v, want %v", l, g.Log())
	}
	for _, key := range keys {
		state, is := g.State(key)
		if x, ok := s.State(key); x != state || ok != is {
			t.Fatalf("State(%d): %v, %v; want %v, %v", key, x, ok, state, is)
		}
	}
}

// 32: the chapter's example.
func TestExample(t *testing.T) {
	s := made(t, working)
	do(t, s, "open 1, sync, pick 1 0, crash 3")
	if many, err := s.Recover(); many != 1 || err != api.OK {
		t.Errorf("%d, %v", many, err)
	}
	wantStore(t, s, program(t, working), true, steps("open 1"), encoded(t, steps("open 1")), 17)
}

// 32.1: a new store is up, of an engine without instances and an empty journal.
func TestNew(t *testing.T) {
	wantStore(t, made(t, working), program(t, working), true, nil, "", 0)
}

// 32.1, 32.3: New and Load tell bpel.Check's error, Load ahead of that of its journal.
func TestWrongPrograms(t *testing.T) {
	twice := bpel.Act{Kind: bpel.Sequence, Kids: []bpel.Act{{Kind: bpel.Wait, Node: 1}, {Kind: bpel.Wait, Node: 1}}}
	deep := bpel.Act{Kind: bpel.Empty}
	for range 40 {
		deep = bpel.Act{Kind: bpel.Sequence, Kids: []bpel.Act{deep, {Kind: bpel.Empty}}}
	}
	for i, c := range []struct {
		a    bpel.Act
		want api.Errno
	}{{bpel.Act{}, api.ErrForm}, {bpel.Act{Kind: bpel.On, Kids: []bpel.Act{{Kind: bpel.Empty}}}, api.ErrForm}, {twice, api.ErrSame}, {deep, api.ErrLong}} {
		if s, err := store.New(c.a); s != nil || err != c.want || err != bpel.Check(c.a) {
			t.Errorf("%d: New: %v, %v", i, s, err)
		}
		for _, j := range []string{"", encoded(t, steps("open 1")), strings.Repeat("j", 20001)} {
			if s, many, err := store.Load(c.a, j); s != nil || many != 0 || err != c.want {
				t.Errorf("%d: Load: %v, %d, %v", i, s, many, err)
			}
		}
	}
}

// 32.1: a step stands in the journal, loose, and is done; its entry is told, also if that is an error.
func TestDo(t *testing.T) {
	s, a := made(t, working), program(t, working)
	g, _ := engine.New(a)
	var done []engine.Step
	for i, x := range steps("open 7, pick 7 1, send 7 1, send 7 0, send 8 1, pick 7 0, pick 7 0, tick 0 2, open 1000, open 8, open 7, pick 7 5, tick 5 1, close 8, close 8, pick 7 0, pick 7 0") {
		e, err := s.Do(x)
		if want := g.Step(x); e != want || err != api.OK {
			t.Errorf("%d: %v, %v; want %v", i, e, err, want)
		}
		done = append(done, x)
		wantStore(t, s, a, true, done, encoded(t, done), 0)
	}
}

// 32.1: a step that can't be written isn't done, and leaves all as it was.
func TestDoErrors(t *testing.T) {
	s := made(t, working)
	do(t, s, "open 7, sync, pick 7 0, send 7 1")
	was := sight(s)
	for i, x := range []engine.Step{{}, {What: 6}, {What: 9, Key: 7}, {What: -1}, {What: 257, Key: 1}, {What: math.MaxInt}, {What: engine.Open, Key: -1}, {What: engine.Open, Key: end + 1}, {What: engine.Close, Key: math.MinInt},
		{What: engine.Tick, N: -1}, {What: engine.Tick, N: end + 1}, {What: engine.Pick, Key: 7, N: math.MaxInt}, {What: engine.Pick, Key: 7, N: math.MinInt}} {
		if e, err := s.Do(x); e != (engine.Entry{}) || err != api.ErrArg || sight(s) != was {
			t.Errorf("%d: %v, %v", i, e, err)
		}
	}
	// What can be written is done, though the engine does not take it.
	for i, x := range []engine.Step{{What: engine.Open, Key: end}, {What: engine.Send, Key: 7, N: end}, {What: engine.Tick, Key: end, N: end}} {
		if e, err := s.Do(x); e != (engine.Entry{Key: x.Key, Err: []api.Errno{api.ErrArg, api.ErrArg, api.OK}[i]}) || err != api.OK || s.Steps() != 4+i {
			t.Errorf("%d: %v, %v", i, e, err)
		}
	}
}

// 32.1: a journal has room for so many steps; behind them none is done, but what can't be written is told first.
func TestFull(t *testing.T) {
	s := made(t, working)
	for i := range room {
		if e, err := s.Do(engine.Step{What: engine.Open, Key: i}); err != api.OK || (e.Err == api.OK) != (i < 8) {
			t.Fatalf("%d: %v, %v", i, e, err)
		}
	}
	was := sight(s)
	for range 2 {
		if e, err := s.Do(step("pick 7")); e != (engine.Entry{}) || err != api.ErrFull || sight(s) != was {
			t.Errorf("%v, %v", e, err)
		}
		if e, err := s.Do(step("other 7")); e != (engine.Entry{}) || err != api.ErrArg || sight(s) != was {
			t.Errorf("%v, %v", e, err)
		}
	}
	if len(s.Bytes()) != 17*room || s.Steps() != room {
		t.Errorf("%d bytes, %d steps", len(s.Bytes()), s.Steps())
	}
	// It is full behind a crash as well, unless bytes were lost.
	do(t, s, "crash 19992")
	if many, err := s.Recover(); many != room || err != api.OK {
		t.Errorf("%d, %v", many, err)
	}
	if _, err := s.Do(step("pick 7")); err != api.ErrFull {
		t.Error(err)
	}
	l := make([]engine.Step, room)
	for i := range l {
		l[i] = step("open 7")
	}
	j := encoded(t, l)
	s, many, err := store.Load(program(t, working), j[:len(j)-1]+"xxx")
	if many != room-1 || err != api.OK {
		t.Errorf("%d, %v", many, err)
	}
	do(t, s, "pick 7")
	if _, err := s.Do(step("pick 7")); err != api.ErrFull || s.Steps() != room {
		t.Error(err)
	}
}

// 32.1: what was written is loose until all of it is safe.
func TestSync(t *testing.T) {
	s := made(t, working)
	for _, c := range []struct {
		text string
		safe int
	}{{"sync", 0}, {"open 7", 0}, {"pick 7", 0}, {"sync", 34}, {"sync", 34}, {"send 8 1", 34}, {"send 7 1", 34}, {"sync", 68}, {"close 7", 68}, {"crash 17", 85}} {
		do(t, s, c.text)
		if s.Safe() != c.safe {
			t.Errorf("%s: %d bytes are safe, want %d", c.text, s.Safe(), c.safe)
		}
	}
}

// 32.2: behind a crash the journal is what was safe and what was kept, all of which is safe then; the engine is gone, and comes back.
func TestCrash(t *testing.T) {
	a := program(t, working)
	for _, c := range []struct {
		ahead string
		loose int
	}{{"", 0}, {"open 7", 17}, {"open 7, sync", 0}, {"open 7, pick 7 1, send 7 1", 51}, {"open 7, sync, pick 7 1, send 7 1", 34}, {"open 7, pick 7 1, sync, send 7 1, pick 7, tick 0 3, pick 7, open 7", 85}} {
		text := strings.ReplaceAll(c.ahead, "sync, ", "")
		whole := encoded(t, steps(strings.TrimSuffix(text, ", sync")))
		for keep := -2; keep < c.loose+3; keep++ {
			s := made(t, working)
			do(t, s, c.ahead)
			was := sight(s)
			err := s.Crash(keep)
			if keep < 0 || keep > c.loose {
				if err != api.ErrArg || sight(s) != was {
					t.Errorf("%s: Crash(%d): %v", c.ahead, keep, err)
				}
				continue
			}
			if err != api.OK {
				t.Errorf("%s: Crash(%d): %v", c.ahead, keep, err)
			}
			kept := whole[:len(whole)-c.loose+keep]
			wantStore(t, s, a, false, nil, kept, len(kept))
			many, err := s.Recover()
			if many != len(kept)/17 || err != api.OK {
				t.Errorf("%s: Crash(%d), Recover: %d, %v", c.ahead, keep, many, err)
			}
			read, _ := journal.Decode(kept)
			wantStore(t, s, a, true, read, kept[:17*many], 17*many)
		}
	}
	for _, keep := range []int{math.MinInt, math.MaxInt, end} {
		if err := made(t, working).Crash(keep); err != api.ErrArg {
			t.Errorf("%d: %v", keep, err)
		}
	}
}

// 32.1, 32.2: what a store that is down, or up, does not do, whatever it is asked for; it stays as it was.
func TestStates(t *testing.T) {
	s := made(t, working)
	do(t, s, "open 7, sync, pick 7 0")
	was := sight(s)
	if many, err := s.Recover(); many != 0 || err != api.ErrState || sight(s) != was {
		t.Errorf("%d, %v", many, err)
	}
	do(t, s, "crash 5")
	was = sight(s)
	for _, x := range []engine.Step{step("pick 7"), step("tick 0 1"), step("other 7"), {}, {What: engine.Open, Key: -1}} {
		if e, err := s.Do(x); e != (engine.Entry{}) || err != api.ErrState {
			t.Errorf("%v: %v, %v", x, e, err)
		}
	}
	for _, keep := range []int{0, 5, -1, 6, math.MaxInt} {
		if err := s.Crash(keep); err != api.ErrState {
			t.Errorf("%d: %v", keep, err)
		}
	}
	if err := s.Sync(); err != api.ErrState {
		t.Error(err)
	}
	if sight(s) != was {
		t.Errorf("%s, want %s", sight(s), was)
	}
}

// 32.2: a crash behind a recovery: what was recovered is safe, and what is done behind it is not.
func TestAgain(t *testing.T) {
	s, a := made(t, working), program(t, working)
	do(t, s, "open 7, pick 7 1, crash 33, recover")
	wantStore(t, s, a, true, steps("open 7"), encoded(t, steps("open 7")), 17)
	do(t, s, "pick 7 0, send 7 1, tick 0 2")
	l := steps("open 7, pick 7 0, send 7 1, tick 0 2")
	wantStore(t, s, a, true, l, encoded(t, l), 17)
	if err := s.Crash(52); err != api.ErrArg {
		t.Error(err)
	}
	do(t, s, "crash 50, recover")
	wantStore(t, s, a, true, l[:3], encoded(t, l[:3]), 51)
	do(t, s, "crash 0, recover, crash 0, recover, pick 7, tick 0 2, sync, pick 7, crash 0, recover, pick 7 0")
	l = append(l[:3], steps("pick 7, tick 0 2, pick 7 0")...)
	wantStore(t, s, a, true, l, encoded(t, l), 85)
	if log := s.Log(); log[5].Label != (api.Label{Kind: api.Rang, Node: 3}) {
		t.Errorf("%v", log)
	}
}

// 32.3: a store of a journal: what can be read of it is done, and all that is safe; the rest is gone.
func TestLoad(t *testing.T) {
	a := program(t, working)
	l := steps("open 7, pick 7 1, pick 8, send 7 1, pick 7")
	j := encoded(t, l)
	for i, c := range []struct {
		j    string
		many int
	}{
		{"", 0}, {j, 5}, {j[:84], 4}, {j[:17], 1}, {j[:16], 0}, {j + "junk", 5}, {j + encoded(t, l), 5}, {"junk" + j, 0}, {j[17:], 0}, {j[:34] + j[51:], 2}, {j[:40] + "x" + j[41:], 2},
		{strings.Repeat("\x00", 20000), 0}, {j + strings.Repeat("\x00", 20000-len(j)), 5},
	} {
		s, many, err := store.Load(a, c.j)
		if many != c.many || err != api.OK {
			t.Errorf("%d: %d, %v", i, many, err)
		}
		wantStore(t, s, a, true, l[:c.many], j[:17*c.many], 17*c.many)
		if _, err := s.Recover(); err != api.ErrState {
			t.Errorf("%d: %v", i, err)
		}
		do(t, s, "open 8, pick 8 1")
		more := append(slices.Clone(l[:c.many]), steps("open 8, pick 8 1")...)
		wantStore(t, s, a, true, more, encoded(t, more), 17*c.many)
		do(t, s, "crash 17, recover")
		wantStore(t, s, a, true, more[:c.many+1], encoded(t, more)[:17*(c.many+1)], 17*(c.many+1))
	}
	for _, long := range []string{j + strings.Repeat("\x00", 20001-len(j)), strings.Repeat("j", 30000)} {
		if s, many, err := store.Load(a, long); s != nil || many != 0 || err != api.ErrLong {
			t.Errorf("%v, %d, %v", s, many, err)
		}
	}
}

// 32.3: of a store that is down nothing is told of its engine.
func TestDown(t *testing.T) {
	s := made(t, working)
	do(t, s, "open 7, pick 7 1")
	if state, ok := s.State(7); !ok || state.Vars[0] != 1 || s.Steps() != 2 || len(s.Log()) != 2 {
		t.Errorf("%v, %v, %d, %v", state, ok, s.Steps(), s.Log())
	}
	do(t, s, "crash 34")
	if state, ok := s.State(7); ok || state != (life.State{}) || s.Steps() != 0 || len(s.Log()) != 0 || s.Up() || len(s.Bytes()) != 34 {
		t.Errorf("%v, %v, %d, %v", state, ok, s.Steps(), s.Log())
	}
}

// R3: what is told is new memory.
func TestMemory(t *testing.T) {
	s := made(t, working)
	do(t, s, "open 7, pick 7 1, pick 7")
	log := s.Log()
	was := slices.Clone(log)
	for i := range log[:cap(log)] {
		log[:cap(log)][i].Key = 78
	}
	if l := s.Log(); !slices.Equal(l, was) {
		t.Errorf("%v", l)
	}
	do(t, s, "pick 7")
	if l := s.Log(); !slices.Equal(l[:3], was) {
		t.Errorf("%v", l)
	}
}

// 32.3: of a nil store Do, Sync, Crash and Recover tell ErrState, and all else is nothing; so of one that was not made.
func TestNil(t *testing.T) {
	for i, s := range []*store.Store{nil, {}} {
		for _, x := range []engine.Step{step("open 7"), step("other 7"), {}} {
			if e, err := s.Do(x); e != (engine.Entry{}) || err != api.ErrState {
				t.Errorf("%d: Do: %v, %v", i, e, err)
			}
		}
		for _, keep := range []int{0, -1, 1} {
			if err := s.Crash(keep); err != api.ErrState {
				t.Errorf("%d: Crash: %v", i, err)
			}
		}
		many, err := s.Recover()
		if other := s.Sync(); many != 0 || err != api.ErrState || other != api.ErrState {
			t.Errorf("%d: %d, %v, %v", i, many, err, other)
		}
		state, ok := s.State(7)
		if s.Up() || s.Bytes() != "" || s.Safe() != 0 || s.Steps() != 0 || state != (life.State{}) || ok || len(s.Log()) != 0 {
			t.Errorf("%d: %s", i, sight(s))
		}
	}
}

// P3: no call panics, whatever it is given, also if the program was changed behind the store's back.
func TestEnds(t *testing.T) {
	numbers := []int{math.MinInt, -1, 0, 1, 3, 5, 6, 7, 999, 1000, end, end + 1, math.MaxInt}
	a := program(t, working)
	changed, _ := store.New(a)
	do(t, changed, "open 7, pick 7 0")
	for i := range a.Kids {
		a.Kids[i] = bpel.Act{}
	}
	for _, s := range []*store.Store{nil, {}, made(t, working), changed} {
		for _, what := range numbers {
			for _, key := range numbers {
				s.Do(engine.Step{What: what, Key: key, N: key})
				s.State(key)
			}
			s.Sync()
			s.Crash(what)
			s.Recover()
		}
		sight(s)
	}
}
