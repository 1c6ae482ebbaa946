package store_test

import (
	"math/rand"
	"slices"
	"testing"

	"treenail/api"
	"treenail/bpel"
	"treenail/engine"
	"treenail/journal"
	"treenail/sample"
	"treenail/store"
)

// paper is a store as the chapter's words have it: the steps that are written down in full, and what lies torn behind them.
type paper struct {
	steps []engine.Step
	safe  int // bytes
	torn  int // bytes behind the steps, of a record that was not kept whole
	down  bool
}

// crash tears the paper off behind what is safe and so many bytes more.
func (p *paper) crash(keep int) {
	p.safe += keep
	p.steps, p.torn, p.down = p.steps[:p.safe/17], p.safe%17, true
}

func (p *paper) recover() {
	p.safe -= p.torn
	p.torn, p.down = 0, false
}

// length is how many bytes there are.
func (p *paper) length() int { return 17*len(p.steps) + p.torn }

// anyStep is a step of a script, mostly of one of these keys, that mostly can be written.
func anyStep(r *rand.Rand, keys []int) engine.Step {
	s := engine.Step{What: int("11222233333333344445"[r.Intn(20)] - '0'), Key: keys[r.Intn(len(keys))], N: r.Intn(4)}
	if r.Intn(40) == 0 {
		s.Key = []int{1000, r.Intn(1000), end, end + 1, -1}[r.Intn(5)]
	}
	if r.Intn(40) == 0 {
		s.N = []int{4, end, r.Intn(1000), end + 1, -1}[r.Intn(5)]
	}
	if r.Intn(80) == 0 {
		s.What = []int{0, 6, -1}[r.Intn(3)]
	}
	return s
}

func canBeWritten(s engine.Step) bool {
	return s.What >= 1 && s.What <= 5 && s.Key >= 0 && s.Key <= end && s.N >= 0 && s.N <= end
}

// bytesOf are the steps' records, each told by itself.
func bytesOf(l []engine.Step) string {
	text := ""
	for i, s := range l {
		r, _ := journal.Record(s, i)
		text += r
	}
	return text
}

// wantPaper holds a store against the words: where it is down, the engine has done nothing, else all steps that are written down.
func wantPaper(t *testing.T, s *store.Store, a bpel.Act, p *paper, at []int) {
	t.Helper()
	var done []engine.Step
	if !p.down {
		done = p.steps
	}
	if s.Up() == p.down || s.Safe() != p.safe || s.Steps() != len(done) || len(s.Bytes()) != p.length() || s.Bytes()[:17*len(p.steps)] != bytesOf(p.steps) {
		t.Fatalf("up: %v, %d bytes, %d safe, %d steps; want %v", s.Up(), len(s.Bytes()), s.Safe(), s.Steps(), p)
	}
	g, _ := engine.New(a)
	for _, x := range done {
		g.Step(x)
	}
	wantEngine(t, s, g, at)
}

// wantEngine asks for the same log, and the same states, as those of an engine.
func wantEngine(t *testing.T, s *store.Store, g *engine.Engine, at []int) {
	t.Helper()
	if l := s.Log(); !slices.Equal(l, g.Log()) {
		t.Fatalf("Log: %v, want %v", l, g.Log())
	}
	for _, key := range at {
		state, is := g.State(key)
		if x, ok := s.State(key); x != state || ok != is {
			t.Fatalf("State(%d): %v, %v; want %v, %v", key, x, ok, state, is)
		}
	}
}

// 32.1, 32.2, 32.3: any calls of stores of any programs, held against the chapter's words.
func TestCalls(t *testing.T) {
	r := rand.New(rand.NewSource(32))
	came := map[string]int{}
	told := func(name string, err api.Errno) { came[name+" "+err.Error()]++ }
	for range 300 {
		a := sample.Program(r.Intn)
		s, _ := store.New(a)
		p := &paper{}
		at := r.Perm(1000)[:1+r.Intn(10)]
		for range 120 {
			switch r.Intn(20) {
			case 0:
				want := api.OK
				if p.down {
					want = api.ErrState
				} else {
					p.safe = p.length()
				}
				err := s.Sync()
				if told("sync", err); err != want {
					t.Fatalf("Sync: %v, want %v", err, want)
				}
			case 1, 2:
				loose := p.length() - p.safe
				keep := []int{0, loose, r.Intn(loose + 1), r.Intn(loose + 1), loose + 1, -1}[r.Intn(6)]
				want := api.OK
				switch {
				case p.down:
					want = api.ErrState
				case keep < 0 || keep > loose:
					want = api.ErrArg
				default:
					p.crash(keep)
				}
				err := s.Crash(keep)
				if told("crash", err); err != want {
					t.Fatalf("Crash(%d) of %d: %v, want %v", keep, loose, err, want)
				}
			case 3, 4:
				many, want := 0, api.ErrState
				if p.down {
					p.recover()
					many, want = len(p.steps), api.OK
				}
				got, err := s.Recover()
				if told("recover", err); err != want || got != many {
					t.Fatalf("Recover: %d, %v; want %d, %v", got, err, many, want)
				}
			default:
				x := anyStep(r, at)
				want := api.OK
				if p.down {
					want = api.ErrState
				} else if !canBeWritten(x) {
					want = api.ErrArg
				} else {
					p.steps = append(p.steps, x)
				}
				e, err := s.Do(x)
				if told("do", err); err != want || err != api.OK && e != (engine.Entry{}) {
					t.Fatalf("%v: %v, %v; want %v", x, e, err, want)
				}
				if log := s.Log(); err == api.OK && e != log[len(log)-1] {
					t.Fatalf("%v: %v, %v", x, e, log)
				}
			}
			wantPaper(t, s, a, p, at)
		}
	}
	for _, what := range []string{"sync error 0", "sync error 7", "crash error 0", "crash error 1", "crash error 7", "recover error 0", "recover error 7", "do error 0", "do error 1", "do error 7"} {
		if came[what] < 100 {
			t.Errorf("%s came only %d times", what, came[what])
		}
	}
}

// 32.4, P4: behind a crash and a recovery the engine is as it was behind some of its first steps, and behind all that were safe at least; it goes on as an engine does behind these.
func TestNothingSafeIsLost(t *testing.T) {
	r := rand.New(rand.NewSource(33))
	lost, kept := 0, 0
	for range 300 {
		a := sample.Program(r.Intn)
		s, _ := store.New(a)
		at := r.Perm(1000)[:1+r.Intn(6)]
		var done []engine.Step
		safe := 0
		for range r.Intn(60) {
			if x := anyStep(r, at); canBeWritten(x) {
				s.Do(x)
				done = append(done, x)
			}
			if r.Intn(15) == 0 {
				s.Sync()
				safe = len(done)
			}
		}
		if err := s.Crash(r.Intn(17*(len(done)-safe) + 1)); err != api.OK {
			t.Fatal(err)
		}
		many, err := s.Recover()
		if many < safe || many > len(done) || err != api.OK {
			t.Fatalf("%d, %v; %d were safe, of %d", many, err, safe, len(done))
		}
		lost, kept = lost+len(done)-many, kept+many
		g, _ := engine.New(a)
		for _, x := range done[:many] {
			g.Step(x)
		}
		wantEngine(t, s, g, at)
		for range 30 {
			x := anyStep(r, at)
			if e, err := s.Do(x); err == api.OK && e != g.Step(x) {
				t.Fatalf("%v: %v, %v", x, e, g.Log())
			}
		}
		wantEngine(t, s, g, at)
	}
	if min(lost, kept) < 1000 {
		t.Errorf("%d were lost, %d kept", lost, kept)
	}
}

// 32.5: a store that is loaded from another one's bytes has its engine, which goes on in the same way.
func TestLoadedAgain(t *testing.T) {
	r := rand.New(rand.NewSource(34))
	moved := 0
	for range 300 {
		a := sample.Program(r.Intn)
		s, _ := store.New(a)
		at := r.Perm(1000)[:1+r.Intn(6)]
		for range r.Intn(80) {
			s.Do(anyStep(r, at))
		}
		other, many, err := store.Load(a, s.Bytes())
		if err != api.OK || many != s.Steps() || other.Steps() != many || other.Bytes() != s.Bytes() || other.Safe() != len(s.Bytes()) || !other.Up() {
			t.Fatalf("%d, %v", many, err)
		}
		for range 30 {
			x := anyStep(r, at)
			e, err := s.Do(x)
			if z, got := other.Do(x); z != e || got != err {
				t.Fatalf("%v: %v, %v; of the loaded one %v, %v", x, e, err, z, got)
			}
			if e.Label != (api.Label{}) {
				moved++
			}
		}
		if !slices.Equal(s.Log(), other.Log()) {
			t.Fatalf("%v, of the loaded one %v", s.Log(), other.Log())
		}
		for _, key := range at {
			x, is := s.State(key)
			if z, ok := other.State(key); x != z || is != ok {
				t.Fatalf("%d: %v, of the loaded one %v", key, x, z)
			}
		}
	}
	if moved < 500 {
		t.Errorf("%d moves", moved)
	}
}
