package sound_test

import (
	"fmt"
	"math/rand"
	"reflect"
	"slices"
	"strings"
	"testing"

	"treenail/api"
	"treenail/block"
	"treenail/fold"
	"treenail/net"
	"treenail/sample"
	"treenail/sound"
	"treenail/token"
)

// purse is the tokens of each link.
type purse [api.MaxFlows]int

// tries are what the kids of a web would take and put, kid by kid, whether there are tokens or not.
func tries(n api.Net, web block.Block) [][2][]int {
	var l [][2][]int
	for i, k := range web.Kids {
		var ins, outs []int
		for at, x := range web.Links {
			if x.To == i {
				ins = append(ins, at)
			}
			if x.From == i {
				outs = append(outs, at)
			}
		}
		kind := api.Task
		if k.Kind == block.Gate {
			kind = n.Nodes[k.Node].Kind
		}
		switch {
		case kind == api.Event || kind == api.Xor && len(outs) > 1:
			for _, f := range outs {
				l = append(l, [2][]int{ins, {f}})
			}
		case kind == api.Xor:
			for _, f := range ins {
				l = append(l, [2][]int{{f}, outs})
			}
		default:
			l = append(l, [2][]int{ins, outs})
		}
	}
	return l
}

// nexts are what a marking's moves lead to, with more than one token on a link if it comes to that.
func nexts(moves [][2][]int, p purse) []purse {
	var l []purse
	for _, m := range moves {
		if slices.ContainsFunc(m[0], func(f int) bool { return p[f] == 0 }) {
			continue
		}
		q := p
		for _, f := range m[0] {
			q[f]--
		}
		for _, f := range m[1] {
			q[f]++
		}
		l = append(l, q)
	}
	return l
}

// play is what is wrong with a web that can be played, behind how many markings; and how many were found by then.
func play(n api.Net, web block.Block) (wrong, looked, found int, e api.Errno) {
	moves := tries(n, web)
	out := slices.IndexFunc(web.Links, func(l block.Link) bool { return l.To == -1 })
	var start purse
	start[slices.IndexFunc(web.Links, func(l block.Link) bool { return l.From == -1 })] = 1
	list := []purse{start}
	known := map[purse]bool{start: true}
	for i := 0; i < len(list); i++ {
		p := list[i]
		sum := 0
		for _, k := range p {
			sum += k
		}
		to := nexts(moves, p)
		switch {
		case slices.ContainsFunc(to, func(q purse) bool { return slices.Max(q[:]) > 1 }):
			wrong = 1
		case p[out] == 1 && sum > 1:
			wrong = 2
		case p[out] == 0 && len(to) == 0:
			wrong = 3
		}
		if len(list) > 1500 {
			return 0, 0, len(list), api.ErrFull
		}
		if wrong > 0 {
			return wrong, i, len(list), api.OK
		}
		for _, q := range to {
			if !known[q] && p[out] == 0 {
				known[q] = true
				list = append(list, q)
			}
		}
	}
	if len(list) > 1500 {
		return 0, 0, len(list), api.ErrFull
	}
	return 0, len(list), len(list), api.OK
}

func process(r *rand.Rand) api.Net {
	if r.Intn(3) == 0 {
		return sample.Net(r.Intn)
	}
	return sample.Crossed(r.Intn)
}

// wantPlay holds what is told of a web against the test's own game, and tells what it is.
func wantPlay(t *testing.T, n api.Net, web block.Block) (int, int, api.Errno) {
	t.Helper()
	wrong, looked, _, e := play(n, web)
	w, l, f := sound.Play(n, web)
	if w != wrong || l != looked || f != e {
		t.Fatalf("Play of %v of %v: %d, %d, %v; want %d, %d, %v", web, n, w, l, f, wrong, looked, e)
	}
	if got := sound.Sound(n, web); got != (wrong == 0 && e == api.OK) {
		t.Fatalf("Sound of %v of %v: %v", web, n, got)
	}
	return w, l, f
}

// 12.1: any webs, the process's and others.
func TestAnyWebs(t *testing.T) {
	r := rand.New(rand.NewSource(12))
	times := map[string]int{}
	for range 5000 {
		n := process(r)
		web := sample.Web(n, r.Intn)
		if r.Intn(3) == 0 {
			web = sample.CrossedWeb(n, r.Intn)
		}
		was := fmt.Sprint(n, web)
		wrong, looked, e := wantPlay(t, n, web)
		if fmt.Sprint(n, web) != was {
			t.Fatalf("%s was changed", was)
		}
		times[fmt.Sprint(wrong, e)]++
		if looked > 30 {
			times["many"]++
		}
	}
	for _, x := range []string{"0 error 0", "1 error 0", "2 error 0", "3 error 0", "many"} {
		if times[x] < 100 {
			t.Errorf("%s: %d times", x, times[x])
		}
	}
}

// wide is a process in which an And splits to many ways, and what is split is joined otherwise at times; and a web of it with Empties on these ways,
// so that it has many markings.
func wide(r *rand.Rand) (api.Net, block.Block) {
	ways := 3 + r.Intn(5)
	flows := "0-1" + strings.Repeat(" 1-2", ways) + " 2-3 3-4 3-4 4-5"
	n := sample.Of("sn"+[]string{"nnn", "nnn", "nnx", "nxn", "xnn"}[r.Intn(5)]+"e", flows)
	web, _ := fold.Begin(n)
	for first := len(web.Links); len(web.Links) < 26+r.Intn(15); {
		at := 1 + r.Intn(ways)
		if more := len(web.Links) - first; more > 0 && r.Intn(2) == 0 {
			at = first + r.Intn(more)
		}
		web.Links = append(web.Links, web.Links[at])
		web.Links[at].To, web.Links[len(web.Links)-1].From = len(web.Kids), len(web.Kids)
		web.Kids = append(web.Kids, block.Block{Kind: block.Empty})
	}
	return n, web
}

// 12.1: many markings: what is wrong is told, if it is looked at ahead of there being too many.
func TestManyMarkings(t *testing.T) {
	r := rand.New(rand.NewSource(13))
	full, almost, wrong, late := 0, 0, 0, 0
	for range 700 {
		n, web := wide(r)
		w, looked, e := wantPlay(t, n, web)
		_, _, found, _ := play(n, web)
		switch {
		case e != api.OK:
			full++
		case w > 0 && found > 300:
			wrong++
			if found > 1000 {
				late++
			}
		case w == 0 && looked > 1000:
			almost++
		}
	}
	if full < 50 || almost < 15 || wrong < 50 || late < 15 {
		t.Errorf("too many: %d; almost: %d; wrong: %d, late: %d", full, almost, wrong, late)
	}
}

// 12.2: folding changes nothing, of any webs.
func TestFolded(t *testing.T) {
	r := rand.New(rand.NewSource(14))
	var times [2][4]int
	for range 5000 {
		n := process(r)
		web := sample.Web(n, r.Intn)
		if r.Intn(3) == 0 {
			web = sample.CrossedWeb(n, r.Intn)
		}
		first, _, e := sound.Play(n, web)
		for e == api.OK {
			to, kind, _ := fold.Step(n, web)
			wrong, _, f := sound.Play(n, to)
			// A round that nothing leads to may be folded to a kid that leads to itself, which is no web.
			if kind == 0 || f != api.OK {
				break
			}
			if (first == 0) != (wrong == 0) {
				t.Fatalf("%v of %v: %d, but folded to %v: %d", web, n, first, to, wrong)
			}
			times[min(first, 1)][kind]++
			web = to
		}
	}
	for i, l := range times {
		for kind, k := range l {
			if kind > 0 && k < 100 {
				t.Errorf("wrong %d: kind %d: %d times", i, kind, k)
			}
		}
	}
}

// tokensWrong plays a process of free choices with tokens (7.1), all that can be chosen and with every message there, and tells whether a flow gets
// two tokens, one is left when the End takes one, or it is stuck; false besides, if there are too many states.
func tokensWrong(n api.Net) (wrong, all bool) {
	start, _ := token.Start(n)
	list := []token.State{start}
	known := map[[api.MaxFlows]int]bool{start.Tokens: true}
	for i := 0; i < len(list); i++ {
		if len(list) > 3000 {
			return false, false
		}
		moved := false
		for f := range n.Flows {
			s := list[i]
			s.Vars[0], s.Queue = f, [api.Msgs]int{3, 3, 3, 3}
			for k, m := range token.Moves(n, s) {
				to, label, _ := token.Do(n, s, k)
				if m.Node == net.End(n) && label.Kind != api.Finished || slices.Max(to.Tokens[:]) > 1 {
					return true, true
				}
				moved = true
				if !known[to.Tokens] {
					known[to.Tokens] = true
					list = append(list, to)
				}
			}
		}
		if !moved && list[i].Mode != token.Ended {
			return true, true
		}
	}
	return false, true
}

// 12.1, 7.1: the web with which a process begins is sound just if the process's tokens never come to what is wrong.
func TestTokens(t *testing.T) {
	r := rand.New(rand.NewSource(15))
	var times [2]int
	for range 1500 {
		n := sample.Free(process(r))
		web, _ := fold.Begin(n)
		got, _, e := sound.Play(n, web)
		wrong, all := tokensWrong(n)
		if e != api.OK || !all {
			continue
		}
		if (got != 0) != wrong {
			t.Fatalf("%v: %d, but of tokens %v", n, got, wrong)
		}
		times[min(got, 1)]++
	}
	if min(times[0], times[1]) < 300 {
		t.Errorf("sound, wrong: %v", times)
	}
}

// 12.1: fold.Step's errors, of what was spoilt.
func TestAnyErrors(t *testing.T) {
	r := rand.New(rand.NewSource(16))
	errs := map[api.Errno]int{}
	for range 3000 {
		n := process(r)
		web := sample.Web(n, r.Intn)
		number := func() int { return []int{-1 << 63, -2, -1, 0, 1, 2, 5, 9, 10, 23, 40, 1<<63 - 1}[r.Intn(12)] }
		k, l := &web.Kids[r.Intn(len(web.Kids))], &web.Links[r.Intn(len(web.Links))]
		n.Nodes = slices.Clone(n.Nodes)
		*[]*int{&web.Kind, &web.Node, &k.Kind, &k.Node, &l.From, &l.To, &l.Flow, &n.Nodes[r.Intn(len(n.Nodes))].Kind}[r.Intn(8)] = number()
		_, _, want := fold.Step(n, web)
		errs[want]++
		if want == api.OK {
			wantPlay(t, n, web)
			continue
		}
		if wrong, looked, e := sound.Play(n, web); wrong != 0 || looked != 0 || e != want || sound.Sound(n, web) {
			t.Fatalf("Play of %v of %v: %d, %d, %v; want %v", web, n, wrong, looked, e, want)
		}
	}
	if errs[api.OK] < 100 || errs[api.ErrArg] < 500 || errs[api.ErrForm] < 100 || len(errs) > 3 {
		t.Errorf("%v", errs)
	}
}

// R6: the same call tells the same.
func TestSame(t *testing.T) {
	r := rand.New(rand.NewSource(17))
	for range 300 {
		n := process(r)
		web := sample.Web(n, r.Intn)
		was := net.Copy(n)
		a, b, e := sound.Play(n, web)
		if c, d, f := sound.Play(n, web); a != c || b != d || e != f || !reflect.DeepEqual(n, was) {
			t.Fatalf("%v of %v: %d, %d, %v, then %d, %d, %v", web, n, a, b, e, c, d, f)
		}
	}
}
