package dead_test

import (
	"math/rand"
	"slices"
	"testing"

	"treenail/api"
	"treenail/block"
	"treenail/bpel"
	"treenail/dead"
	"treenail/net"
	"treenail/sample"
	"treenail/shape"
	"treenail/web"
)

// anyWeb is a right program that is a web.
func anyWeb(r *rand.Rand) bpel.Act {
	for {
		if a := sample.Program(r.Intn); a.Kind == bpel.Web {
			return a
		}
	}
}

// anyState is one of a web, to which a run need not come.
func anyState(w bpel.Act, r *rand.Rand) dead.State {
	var s dead.State
	for i := range w.Links {
		s.Links[i] = r.Intn(3)
	}
	for i := range w.Kids {
		s.Kids[i] = []int{dead.Waits, dead.Waits, dead.Runs, dead.Done, dead.Skipped}[r.Intn(5)]
	}
	return s
}

// ends are the places of the links that lead to a kid, and from it.
func ends(w bpel.Act, kid int) (ins, outs []int) {
	for i, l := range w.Links {
		if l.To == kid {
			ins = append(ins, i)
		}
		if l.From == kid {
			outs = append(outs, i)
		}
	}
	return ins, outs
}

// next is the least kid that waits though none of its ins is open; -1, if there is none.
func next(w bpel.Act, s dead.State) int {
	for kid := range w.Kids {
		ins, _ := ends(w, kid)
		if s.Kids[kid] == dead.Waits && !slices.ContainsFunc(ins, func(i int) bool { return s.Links[i] == dead.Open }) {
			return kid
		}
	}
	return -1
}

// settled is what becomes of a state, by the chapter's words.
func settled(w bpel.Act, s dead.State) dead.State {
	for kid := next(w, s); kid >= 0; kid = next(w, s) {
		ins, outs := ends(w, kid)
		taken := 0
		for _, i := range ins {
			if s.Links[i] == dead.Taken {
				taken++
			}
		}
		kind := 0
		if w.Kids[kid].Kind == bpel.Gate {
			kind = w.Kids[kid].A
		}
		lives := taken > 0
		if kind == 2 {
			lives = taken == len(ins)
		}
		become := dead.Open
		switch {
		case !lives:
			s.Kids[kid], become = dead.Skipped, dead.Gone
		case kind == 1 || kind == 2 || kind == 4:
			s.Kids[kid], become = dead.Done, dead.Taken
		default:
			s.Kids[kid] = dead.Runs
			continue
		}
		for _, i := range outs {
			s.Links[i] = become
		}
	}
	return s
}

// wantAll holds all that can be asked of a state against the chapter's words.
func wantAll(t *testing.T, w bpel.Act, s dead.State) {
	t.Helper()
	if err := dead.Check(w, s); err != api.OK {
		t.Fatalf("Check: %v", err)
	}
	var running []int
	for kid, k := range w.Kids {
		_, outs := ends(w, kid)
		isGate := k.Kind == bpel.Gate
		if s.Kids[kid] == dead.Runs {
			running = append(running, kid)
		}
		want, wantErr := dead.State{}, api.ErrNone
		if s.Kids[kid] == dead.Runs && !isGate {
			want, wantErr = s, api.OK
			want.Kids[kid], want.Links[outs[0]] = dead.Done, dead.Taken
			want = settled(w, want)
		}
		if to, err := dead.Finish(w, s, kid); to != want || err != wantErr {
			t.Fatalf("Finish of %d in %s: %s, %v; want %s, %v", kid, shown(w, s), shown(w, to), err, shown(w, want), wantErr)
		}
		for out := -1; out <= len(outs); out++ {
			want, wantErr := dead.State{}, api.ErrNone
			if s.Kids[kid] == dead.Runs && isGate {
				wantErr = api.ErrArg
				if out >= 0 && out < len(outs) {
					want, wantErr = s, api.OK
					want.Kids[kid] = dead.Done
					for at, i := range outs {
						want.Links[i] = dead.Gone
						if at == out {
							want.Links[i] = dead.Taken
						}
					}
					want = settled(w, want)
				}
			}
			if to, err := dead.Choose(w, s, kid, out); to != want || err != wantErr {
				t.Fatalf("Choose of %d, %d in %s: %s, %v; want %s, %v", kid, out, shown(w, s), shown(w, to), err, shown(w, want), wantErr)
			}
		}
	}
	last, _ := ends(w, -1)
	if l := dead.Running(w, s); !slices.Equal(l, running) || dead.Over(w, s) != (s.Links[last[0]] == dead.Taken) {
		t.Fatalf("%s: Running %v, Over %v", shown(w, s), l, dead.Over(w, s))
	}
}

// 19.1, 19.2: any webs in any states.
func TestAnyStates(t *testing.T) {
	r := rand.New(rand.NewSource(19))
	for range 400 {
		w := anyWeb(r)
		first := dead.State{}
		_, outs := ends(w, -1)
		first.Links[outs[0]] = dead.Taken
		if s, err := dead.Start(w); err != api.OK || s != settled(w, first) {
			t.Fatalf("Start: %s, %v; want %s", shown(w, s), err, shown(w, settled(w, first)))
		}
		for range 2 {
			wantAll(t, w, anyState(w, r))
		}
	}
}

// wantKept is that nothing goes back.
func wantKept(t *testing.T, w bpel.Act, was, now dead.State) {
	t.Helper()
	for i := range w.Links {
		if was.Links[i] != dead.Open && now.Links[i] != was.Links[i] {
			t.Fatalf("%s became %s", shown(w, was), shown(w, now))
		}
	}
	for i := range w.Kids {
		ended := was.Kids[i] == dead.Done || was.Kids[i] == dead.Skipped
		if ended && now.Kids[i] != was.Kids[i] || was.Kids[i] == dead.Runs && now.Kids[i] != dead.Runs && now.Kids[i] != dead.Done {
			t.Fatalf("%s became %s", shown(w, was), shown(w, now))
		}
	}
}

// played is the last state of a run: any kid that runs is finished, or chooses what it is told.
func played(t *testing.T, w bpel.Act, r *rand.Rand, choose func(kid, outs int) int) dead.State {
	t.Helper()
	s, err := dead.Start(w)
	for range len(w.Kids) + 1 {
		if err != api.OK {
			t.Fatal(err)
		}
		if r.Intn(8) == 0 {
			wantAll(t, w, s)
		}
		running := dead.Running(w, s)
		if len(running) == 0 {
			break
		}
		was, kid := s, running[r.Intn(len(running))]
		if w.Kids[kid].Kind == bpel.Gate {
			s, err = dead.Choose(w, s, kid, choose(kid, len(w.Kids[kid].Conds)))
		} else {
			s, err = dead.Finish(w, s, kid)
		}
		wantKept(t, w, was, s)
	}
	for i := range w.Links {
		if s.Links[i] == dead.Open {
			t.Fatalf("it came to %s", shown(w, s))
		}
	}
	for i := range w.Kids {
		if s.Kids[i] != dead.Done && s.Kids[i] != dead.Skipped {
			t.Fatalf("it came to %s", shown(w, s))
		}
	}
	return s
}

// 19.3, 19.4: runs of any webs end, and what became of something stays.
func TestRuns(t *testing.T) {
	r := rand.New(rand.NewSource(20))
	over, skipped := 0, 0
	const runs = 400
	for range runs {
		w := anyWeb(r)
		s := played(t, w, r, func(kid, outs int) int { return r.Intn(outs) })
		if dead.Over(w, s) {
			over++
		}
		if slices.Contains(s.Kids[:], dead.Skipped) {
			skipped++
		}
	}
	if over < runs/4 || over > runs*3/4 || skipped < runs/4 {
		t.Errorf("%d were over, %d skipped kids", over, skipped)
	}
}

// 19.3: what becomes of a process's web is what layer 13 tells of it, in whatever order its kids are finished.
func TestFates(t *testing.T) {
	r := rand.New(rand.NewSource(21))
	webs := 0
	for range 300 {
		n := sample.Knit(r.Intn)
		b := sample.Web(n, r.Intn)
		w, err := shape.Of(n, b)
		if err != api.OK {
			continue
		}
		webs++
		order, _ := web.Order(n, b)
		var choices []int
		chosen := map[int]int{}
		for _, kid := range order {
			if k := b.Kids[kid]; k.Kind == block.Gate && n.Nodes[k.Node].Kind == api.Xor && len(net.Outs(n, k.Node)) > 1 {
				chosen[kid] = r.Intn(7)
				choices = append(choices, chosen[kid])
			}
		}
		runs, taken, _ := web.Fates(n, b, choices)
		s := played(t, w, r, func(kid, outs int) int { return chosen[kid] % outs })
		for i := range w.Kids {
			if (s.Kids[i] == dead.Done) != runs[i] {
				t.Fatalf("%s; want %v, %v", shown(w, s), runs, taken)
			}
		}
		for i := range w.Links {
			if (s.Links[i] == dead.Taken) != taken[i] {
				t.Fatalf("%s; want %v, %v", shown(w, s), runs, taken)
			}
		}
	}
	if webs < 250 {
		t.Errorf("%d webs", webs)
	}
}
