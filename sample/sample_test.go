package sample_test

import (
	"math/rand"
	"reflect"
	"slices"
	"testing"

	"treenail/api"
	"treenail/block"
	"treenail/bpel"
	"treenail/chart"
	"treenail/fold"
	"treenail/net"
	"treenail/sample"
	"treenail/sound"
	"treenail/token"
)

// Processes are right, of all kinds and sizes, and the same if the same is picked.
func TestNet(t *testing.T) {
	r, again := rand.New(rand.NewSource(1)), rand.New(rand.NewSource(1))
	var kinds [api.Catch + 1]int
	sizes := map[int]int{}
	loops := 0
	for range 3000 {
		n := sample.Net(r.Intn)
		if !reflect.DeepEqual(sample.Net(again.Intn), n) {
			t.Fatal("another process")
		}
		if rule, at := net.Check(n); rule != 0 {
			t.Fatalf("%v breaks rule %d at %d", n, rule, at)
		}
		if surplus(n) != 0 {
			t.Fatalf("%v: forks and joins differ", n)
		}
		for _, x := range n.Nodes {
			kinds[x.Kind]++
		}
		sizes[len(n.Nodes)]++
		if loop(n) {
			loops++
		}
	}
	for k, times := range kinds {
		if k > 0 && times < 1000 {
			t.Errorf("kind %d: %d times", k, times)
		}
	}
	for size := 3; size <= api.MaxNodes; size++ {
		if sizes[size] == 0 {
			t.Errorf("no process of %d nodes", size)
		}
	}
	if loops < 100 || loops > 2900 {
		t.Errorf("%d processes with a loop", loops)
	}
}

// Processes with crossed flows are right, and many are joined otherwise than they fork.
func TestCrossed(t *testing.T) {
	r, again := rand.New(rand.NewSource(2)), rand.New(rand.NewSource(2))
	uneven := 0
	for range 3000 {
		n := sample.Crossed(r.Intn)
		if !reflect.DeepEqual(sample.Crossed(again.Intn), n) {
			t.Fatal("another process")
		}
		if rule, at := net.Check(n); rule != 0 {
			t.Fatalf("%v breaks rule %d at %d", n, rule, at)
		}
		if surplus(n) != 0 {
			uneven++
		}
	}
	if uneven < 300 || uneven > 2700 {
		t.Errorf("%d processes whose forks and joins differ", uneven)
	}
}

// Processes that are woven are right, of all sizes, and sound; most can't be folded whole.
func TestWoven(t *testing.T) {
	r, again := rand.New(rand.NewSource(6)), rand.New(rand.NewSource(6))
	sizes, kinds := map[int]int{}, map[int]int{}
	linked, mixed := 0, 0
	for range 2000 {
		n := sample.Woven(r.Intn)
		if !reflect.DeepEqual(sample.Woven(again.Intn), n) {
			t.Fatal("another process")
		}
		if rule, at := net.Check(n); rule != 0 {
			t.Fatalf("%v breaks rule %d at %d", n, rule, at)
		}
		sizes[len(n.Nodes)]++
		for _, x := range n.Nodes {
			kinds[x.Kind]++
		}
		b, _ := fold.Fold(n)
		if b.Kind != block.Web {
			continue
		}
		linked++
		if wrong, _, err := sound.Play(n, b); wrong != 0 || err != api.OK {
			t.Fatalf("%v is not sound: %d, %v", n, wrong, err)
		}
		gates := map[int]int{}
		for _, k := range b.Kids {
			if k.Kind == block.Gate {
				gates[n.Nodes[k.Node].Kind]++
			}
		}
		if len(gates) == 2 {
			mixed++
		}
	}
	for size := 6; size <= api.MaxNodes; size++ {
		if sizes[size] == 0 {
			t.Errorf("no process of %d nodes", size)
		}
	}
	for kind := api.Start; kind <= api.Catch; kind++ {
		if kinds[kind] < 300 {
			t.Errorf("kind %d: %d times", kind, kinds[kind])
		}
	}
	if linked < 600 || linked > 1800 || mixed < 50 {
		t.Errorf("%d can't be folded, of which %d have gates of both kinds", linked, mixed)
	}
}

// Processes that are knit are right, without Events and rounds; some can be folded whole, some others are sound.
func TestKnit(t *testing.T) {
	r, again := rand.New(rand.NewSource(5)), rand.New(rand.NewSource(5))
	sizes := map[int]int{}
	whole, linked, ruled := 0, 0, 0
	for range 3000 {
		n := sample.Knit(r.Intn)
		if !reflect.DeepEqual(sample.Knit(again.Intn), n) {
			t.Fatal("another process")
		}
		if rule, at := net.Check(n); rule != 0 {
			t.Fatalf("%v breaks rule %d at %d", n, rule, at)
		}
		if slices.ContainsFunc(n.Nodes, func(x api.Node) bool { return x.Kind == api.Event }) || loop(n) {
			t.Fatalf("%v has an Event, or goes round", n)
		}
		sizes[len(n.Nodes)]++
		switch b, _ := fold.Fold(n); {
		case b.Kind != block.Web:
			whole++
		case sound.Sound(n, b):
			linked++
		default:
			ruled++
		}
	}
	for size := 4; size <= api.MaxNodes; size++ {
		if sizes[size] == 0 {
			t.Errorf("no process of %d nodes", size)
		}
	}
	if min(whole, linked, ruled) < 50 {
		t.Errorf("whole: %d, linked: %d, ruled: %d", whole, linked, ruled)
	}
}

// A process that is written by letters is the one that its document tells.
func TestOf(t *testing.T) {
	want, _, _, e := chart.Read(`<process><start/><xor/><task var="0"/><event/><catch message="0"/><catch/><xor/><assign var="0" value="0"/><xor/><and/><and/><end/>` +
		`<flow from="0" to="1"/><flow from="1" to="3" if="(eq $0 1)"/><flow from="1" to="2" else="yes"/><flow from="3" to="4"/><flow from="3" to="5"/><flow from="4" to="6"/><flow from="5" to="6"/>` +
		`<flow from="2" to="8"/><flow from="6" to="7"/><flow from="7" to="8"/><flow from="8" to="9"/><flow from="9" to="10"/><flow from="9" to="10"/><flow from="10" to="11"/></process>`)
	if e != api.OK {
		t.Fatal(e)
	}
	got := sample.Of("sxtvmcxaxnne", "0-1 1-3 1-2 3-4 3-5 4-6 5-6 2-8 6-7 7-8 8-9 9-10 9-10 10-11")
	a, _ := chart.Write(got)
	if b, _ := chart.Write(want); a != b {
		t.Errorf("%s; want %s", a, b)
	}
}

// Free choices go where the variable 0 tells.
func TestFree(t *testing.T) {
	r := rand.New(rand.NewSource(3))
	choices := 0
	for range 500 {
		n := sample.Net(r.Intn)
		was := net.Copy(n)
		free := sample.Free(n)
		if rule, at := net.Check(free); rule != 0 || !reflect.DeepEqual(n, was) {
			t.Fatalf("%v breaks rule %d at %d, or %v was changed", free, rule, at, n)
		}
		for f, x := range free.Flows {
			if free.Nodes[x.From].Kind != api.Xor || len(net.Outs(free, x.From)) < 2 {
				continue
			}
			choices++
			var s token.State
			s.Tokens[net.Ins(free, x.From)[0]], s.Vars[0] = 1, f
			if m := token.Moves(free, s); m[0] != (token.Move{Node: x.From, Arg: f}) {
				t.Fatalf("%v at %d: %v", free, f, m)
			}
		}
	}
	if choices < 1000 {
		t.Errorf("%d choices", choices)
	}
}

// A block's text is read as that block.
func TestBlock(t *testing.T) {
	for _, s := range []string{"-", "*", "12", "g7", "(seq 1 (alt:2 3 -))", "(par:1 - (pick:4 5 6) (loop:7/1 - 8))", "(web g1 (seq 2 3) [-1 0 0] [0 1 1] [1 -1 2])", "(web)"} {
		if got, e := block.Text(sample.Block(s)); got != s || e != api.OK {
			t.Errorf("%s: %s, %v", s, got, e)
		}
	}
}

// Webs can be folded; crossed ones are of all sorts.
func TestWeb(t *testing.T) {
	r, again := rand.New(rand.NewSource(4)), rand.New(rand.NewSource(4))
	twice, empties, other := 0, 0, 0
	for range 2000 {
		n := sample.Crossed(r.Intn)
		sample.Crossed(again.Intn)
		for _, make := range []func(api.Net, func(int) int) block.Block{sample.Web, sample.CrossedWeb} {
			web := make(n, r.Intn)
			if !block.Same(make(n, again.Intn), web) {
				t.Fatal("another web")
			}
			if _, _, e := fold.Step(n, web); e != api.OK {
				t.Fatalf("%v of %v: %v", web, n, e)
			}
			if block.Check(n, web) == api.ErrSame {
				twice++
			}
			for i, k := range web.Kids {
				if k.Kind == block.Empty {
					empties++
				}
				for _, l := range web.Links {
					if l.From == i && k.Kind == block.Leaf && n.Flows[l.Flow].From != k.Node {
						other++
					}
				}
			}
		}
	}
	if min(twice, empties, other) < 100 {
		t.Errorf("twice: %d, Empties: %d, other flows: %d", twice, empties, other)
	}
}

// surplus is how many more ways Ands split to than they join: 0 of blocks that lie in one another.
func surplus(n api.Net) int {
	sum := 0
	for i, x := range n.Nodes {
		if x.Kind == api.And {
			sum += len(net.Outs(n, i)) - len(net.Ins(n, i))
		}
	}
	return sum
}

// loop tells whether a node leads to itself.
func loop(n api.Net) bool {
	for i := range n.Nodes {
		seen := make([]bool, len(n.Nodes))
		next := []int{i}
		for len(next) > 0 {
			x := next[0]
			next = next[1:]
			for _, f := range net.Outs(n, x) {
				to := n.Flows[f].To
				if to == i {
					return true
				}
				if !seen[to] {
					seen[to] = true
					next = append(next, to)
				}
			}
		}
	}
	return false
}

// Programs are right, of all kinds, few and many, flat and deep, and the same if the same is picked.
func TestProgram(t *testing.T) {
	r, again := rand.New(rand.NewSource(7)), rand.New(rand.NewSource(7))
	var kinds [bpel.Rules + 1]int
	var gates [5]int
	sizes, levels := map[int]int{}, map[int]int{}
	for range 6000 {
		a := sample.Program(r.Intn)
		if !reflect.DeepEqual(sample.Program(again.Intn), a) {
			t.Fatal("another program")
		}
		if e := bpel.Check(a); e != api.OK {
			t.Fatalf("%v: %v", a, e)
		}
		l := bpel.Items(a)
		deep, most := make([]int, len(l)), 0
		for i, x := range l {
			kinds[x.Act.Kind]++
			if x.Act.Kind == bpel.Gate {
				gates[x.Act.A]++
			}
			if x.Parent >= 0 {
				deep[i] = deep[x.Parent] + 1
			}
			most = max(most, deep[i])
		}
		sizes[len(l)/10]++
		levels[most/3]++
	}
	for k, times := range kinds {
		if k > 0 && times < 300 {
			t.Errorf("kind %d: %d times", k, times)
		}
	}
	for k, times := range gates {
		if k > 0 && times < 300 {
			t.Errorf("gate %d: %d times", k, times)
		}
	}
	for i := range 8 {
		if sizes[i] < 5 || levels[i] < 5 {
			t.Errorf("%d programs of %d activities or so, %d of %d levels", sizes[i], 10*i, levels[i], 3*i)
		}
	}
}

// Pieces are right blocks, of all kinds, and the same if the same is picked.
func TestPiece(t *testing.T) {
	r, again := rand.New(rand.NewSource(8)), rand.New(rand.NewSource(8))
	var kinds [block.Rules + 1]int
	long := 0
	for range 3000 {
		n := sample.Net(r.Intn)
		b := sample.Piece(n, r.Intn)
		if !block.Same(sample.Piece(sample.Net(again.Intn), again.Intn), b) {
			t.Fatal("another block")
		}
		switch e := block.Check(n, b); e {
		case api.ErrLong:
			long++
		case api.OK:
			count(b, &kinds)
		default:
			t.Fatalf("%v of %v: %v", b, n, e)
		}
	}
	for kind, times := range kinds {
		if kind > 0 && times < 100 {
			t.Errorf("kind %d: %d times", kind, times)
		}
	}
	if long > 100 {
		t.Errorf("%d are too large", long)
	}
}

// count counts the kinds of a block, and of all in it.
func count(b block.Block, kinds *[block.Rules + 1]int) {
	kinds[b.Kind]++
	for _, k := range b.Kids {
		count(k, kinds)
	}
}
