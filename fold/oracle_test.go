package fold_test

import (
	"math/rand"
	"reflect"
	"slices"
	"testing"

	"treenail/api"
	"treenail/block"
	"treenail/fold"
	"treenail/net"
	"treenail/sample"
)

// knot is a kid of a web, cord a link between two of them; nil is the outside.
type knot struct{ b block.Block }

type cord struct {
	from, to *knot
	flow     int
}

// mesh is a web whose kids and links have no places.
type mesh struct {
	n     api.Net
	knots []*knot
	cords []*cord
}

func meshOf(n api.Net, web block.Block) *mesh {
	m := &mesh{n: n}
	for _, k := range web.Kids {
		m.knots = append(m.knots, &knot{copied(k)})
	}
	at := func(i int) *knot {
		if i == -1 {
			return nil
		}
		return m.knots[i]
	}
	for _, l := range web.Links {
		m.cords = append(m.cords, &cord{at(l.From), at(l.To), l.Flow})
	}
	return m
}

func (m *mesh) web() block.Block {
	web := block.Block{Kind: block.Web}
	for _, k := range m.knots {
		web.Kids = append(web.Kids, k.b)
	}
	for _, c := range m.cords {
		web.Links = append(web.Links, block.Link{From: slices.Index(m.knots, c.from), To: slices.Index(m.knots, c.to), Flow: c.flow})
	}
	return web
}

func (m *mesh) all(is func(c *cord) bool) []*cord {
	var l []*cord
	for _, c := range m.cords {
		if is(c) {
			l = append(l, c)
		}
	}
	return l
}

func (m *mesh) outs(k *knot) []*cord { return m.all(func(c *cord) bool { return c.from == k }) }
func (m *mesh) ins(k *knot) []*cord  { return m.all(func(c *cord) bool { return c.to == k }) }

// is tells whether a knot is a Gate, splitting or joining, of a node of one of these kinds.
func (m *mesh) is(k *knot, splits bool, kinds ...int) bool {
	return k.b.Kind == block.Gate && slices.Contains(kinds, m.n.Nodes[k.b.Node].Kind) && (len(m.ins(k)) == 1) == splits
}

func isPlain(k *knot) bool { return k != nil && k.b.Kind != block.Gate }

// back is where a cord into a knot comes from by way of nothing or of a block: the first cord of that way, and the block.
func (m *mesh) back(c *cord) (*cord, *knot) {
	if !isPlain(c.from) {
		return c, nil
	}
	return m.ins(c.from)[0], c.from
}

func (m *mesh) cut(knots []*knot, cords []*cord) {
	m.knots = slices.DeleteFunc(m.knots, func(k *knot) bool { return slices.Contains(knots, k) })
	m.cords = slices.DeleteFunc(m.cords, func(c *cord) bool { return slices.Contains(cords, c) })
}

func (m *mesh) row() bool {
	for _, a := range m.knots {
		for _, b := range m.knots {
			between := m.all(func(c *cord) bool { return c.from == a && c.to == b })
			if !isPlain(a) || !isPlain(b) || len(between) == 0 {
				continue
			}
			l := [][]block.Block{{a.b}, {b.b}}
			for i := range l {
				if l[i][0].Kind == block.Seq {
					l[i] = l[i][0].Kids
				}
			}
			switch empty := func(b block.Block) bool { return b.Kind == block.Empty }; {
			case empty(b.b) && !empty(a.b):
			case empty(a.b) && !empty(b.b):
				a.b = b.b
			default:
				a.b = block.Block{Kind: block.Seq, Kids: slices.Concat(l...)}
			}
			m.outs(b)[0].from = a
			m.cut([]*knot{b}, between)
			return true
		}
	}
	return false
}

// branch is the kid that a block stands for (nil: nothing), to which the first cord of a way leads; false, if there is none of that kind.
func (m *mesh) branch(kind int, first *cord, by *knot) (block.Block, bool) {
	empty := block.Block{Kind: block.Empty}
	if kind != api.Event {
		if by == nil {
			return empty, true
		}
		return by.b, true
	}
	catch := m.n.Flows[first.flow].To
	if by == nil || m.n.Nodes[catch].Kind != api.Catch {
		return empty, false
	}
	leaf := block.Block{Kind: block.Leaf, Node: catch}
	switch l := by.b.Kids; {
	case reflect.DeepEqual(trim(by.b), leaf):
		return empty, true
	case by.b.Kind != block.Seq || !reflect.DeepEqual(trim(l[0]), leaf):
		return empty, false
	case len(l) == 2:
		return l[1], true
	default:
		return block.Block{Kind: block.Seq, Kids: l[1:]}, true
	}
}

func (m *mesh) closed() bool {
	for _, s := range m.knots {
		for _, j := range m.knots {
			if m.close(s, j) {
				return true
			}
		}
	}
	return false
}

// close folds what lies between two Gates, if all that leads to the second comes from the first, and the other way round.
func (m *mesh) close(s, j *knot) bool {
	if !m.is(s, true, api.And, api.Xor, api.Event) || !m.is(j, false, api.And, api.Xor) {
		return false
	}
	kind := m.n.Nodes[s.b.Node].Kind
	if (kind == api.And) != (m.n.Nodes[j.b.Node].Kind == api.And) {
		return false
	}
	outs := m.outs(s)
	kids := make([]block.Block, len(outs))
	gone, cords := []*knot{j}, slices.Clone(outs)
	for _, c := range m.ins(j) {
		first, by := m.back(c)
		i := slices.Index(outs, first)
		if i < 0 {
			return false
		}
		kid, ok := m.branch(kind, first, by)
		if !ok {
			return false
		}
		kids[i] = kid
		gone, cords = append(gone, by), append(cords, c)
	}
	if len(m.ins(j)) != len(outs) {
		return false
	}
	s.b = block.Block{Kind: map[int]int{api.And: block.Par, api.Xor: block.Alt, api.Event: block.Pick}[kind], Node: s.b.Node, Kids: kids}
	m.outs(j)[0].from = s
	m.cut(gone, cords)
	return true
}

func (m *mesh) round() bool {
	for _, j := range m.knots {
		for _, s := range m.knots {
			if m.turn(j, s) {
				return true
			}
		}
	}
	return false
}

// turn folds what goes round from one Gate to another and back.
func (m *mesh) turn(j, s *knot) bool {
	if !m.is(j, false, api.Xor) || !m.is(s, true, api.Xor) || len(m.ins(j)) != 2 || len(m.outs(s)) != 2 {
		return false
	}
	in := m.ins(s)[0]
	out, d := m.back(in)
	if out.from != j {
		return false
	}
	var again []*cord
	for _, c := range m.ins(j) {
		if first, _ := m.back(c); first.from == s {
			again = append(again, c)
		}
	}
	if len(again) != 1 {
		return false
	}
	first, g := m.back(again[0])
	i := slices.Index(m.outs(s), first)
	leaves := m.outs(s)[1-i]
	kids := []block.Block{{Kind: block.Empty}, {Kind: block.Empty}}
	for k, by := range []*knot{d, g} {
		if by != nil {
			kids[k] = by.b
		}
	}
	j.b = block.Block{Kind: block.Loop, Node: s.b.Node, Arg: 1 - i, Kids: kids}
	leaves.from = j
	m.cut([]*knot{s, d, g}, []*cord{in, out, first, again[0]})
	return true
}

// step does the first fold, and tells which it is.
func (m *mesh) step() int {
	switch {
	case m.row():
		return 1
	case m.closed():
		return 2
	case m.round():
		return 3
	}
	return 0
}

// fits tells whether a web can be folded.
func fits(n api.Net, web block.Block) bool {
	e := block.Check(n, web)
	if e != api.OK && e != api.ErrSame || web.Kind != block.Web {
		return false
	}
	m := meshOf(n, web)
	for _, k := range m.knots {
		ins, outs := 1, 1
		if k.b.Kind == block.Gate {
			ins, outs = 0, 0
			for _, f := range n.Flows {
				if f.To == k.b.Node {
					ins++
				}
				if f.From == k.b.Node {
					outs++
				}
			}
		}
		if len(m.ins(k)) != ins || len(m.outs(k)) != outs {
			return false
		}
	}
	return true
}

func copied(b block.Block) block.Block {
	b.Kids, b.Links = slices.Clone(b.Kids), slices.Clone(b.Links)
	for i := range b.Kids {
		b.Kids[i] = copied(b.Kids[i])
	}
	return b
}

// trim is the block with nil for each list without an element.
func trim(b block.Block) block.Block {
	b = copied(b)
	if len(b.Links) == 0 {
		b.Links = nil
	}
	if len(b.Kids) == 0 {
		b.Kids = nil
	}
	for i := range b.Kids {
		b.Kids[i] = trim(b.Kids[i])
	}
	return b
}

func process(r *rand.Rand) api.Net {
	if r.Intn(3) == 0 {
		return sample.Net(r.Intn)
	}
	return sample.Crossed(r.Intn)
}

// wantStep holds a step against the test's own reading, and tells what it is.
func wantStep(t *testing.T, n api.Net, web block.Block) (block.Block, int, api.Errno) {
	t.Helper()
	var want block.Block
	kind, e := 0, api.ErrArg
	if fits(n, web) {
		m := meshOf(n, web)
		kind, e = m.step(), api.OK
		want = m.web()
	}
	was := copied(web)
	got, k, f := fold.Step(n, web)
	if k != kind || f != e || !reflect.DeepEqual(trim(got), trim(want)) {
		t.Fatalf("Step of %v of %v: %v, %d, %v; want %v, %d, %v", web, n, got, k, f, want, kind, e)
	}
	if !reflect.DeepEqual(web, was) {
		t.Fatalf("%v was changed", was)
	}
	return got, k, f
}

// 11.1, 11.2, 11.3, 11.4: any processes.
func TestAnyProcesses(t *testing.T) {
	r := rand.New(rand.NewSource(11))
	var kinds [4]int
	webs := 0
	for range 4000 {
		n := process(r)
		web, e := fold.Begin(n)
		if e != api.OK || !reflect.DeepEqual(trim(web), begin(n)) {
			t.Fatalf("Begin of %v: %v, %v", n, web, e)
		}
		for kind := -1; kind != 0; {
			was := len(web.Kids)
			web, kind, _ = wantStep(t, n, web)
			kinds[kind]++
			if kind > 0 && len(web.Kids) >= was {
				t.Fatalf("Step of %v: %v is not smaller", n, web)
			}
		}
		want := web
		if len(web.Kids) == 1 {
			want = web.Kids[0]
		} else {
			webs++
		}
		if b, e := fold.Fold(n); e != api.OK || !reflect.DeepEqual(trim(b), trim(want)) {
			t.Fatalf("Fold of %v: %v, %v; want %v", n, b, e, want)
		}
		wantLeaves(t, n, want)
	}
	for kind, times := range kinds {
		if times < 1000 {
			t.Errorf("kind %d: %d times", kind, times)
		}
	}
	if webs < 500 {
		t.Errorf("%d webs", webs)
	}
}

// begin is the web with which a process begins: what is no Start and no End, and all flows.
func begin(n api.Net) block.Block {
	var nodes []int
	for i, x := range n.Nodes {
		if x.Kind != api.Start && x.Kind != api.End {
			nodes = append(nodes, i)
		}
	}
	web := block.Block{Kind: block.Web}
	for _, i := range nodes {
		kind := block.Gate
		if slices.Contains([]int{api.Task, api.Assign, api.Catch}, n.Nodes[i].Kind) {
			kind = block.Leaf
		}
		web.Kids = append(web.Kids, block.Block{Kind: kind, Node: i})
	}
	for i, f := range n.Flows {
		web.Links = append(web.Links, block.Link{From: slices.Index(nodes, f.From), To: slices.Index(nodes, f.To), Flow: i})
	}
	return web
}

// wantLeaves: 11.3: each Task, Assign and Catch stands in what is left once.
func wantLeaves(t *testing.T, n api.Net, b block.Block) {
	t.Helper()
	var want []int
	for i, x := range n.Nodes {
		if x.Kind == api.Task || x.Kind == api.Assign || x.Kind == api.Catch {
			want = append(want, i)
		}
	}
	if l, e := block.Leaves(n, b); e != api.OK || !slices.Equal(l, want) {
		t.Fatalf("Leaves of %v of %v: %v, %v", b, n, l, e)
	}
}

// 11.2: any webs, the process's and others, and webs that were spoilt.
func TestAnyWebs(t *testing.T) {
	r := rand.New(rand.NewSource(12))
	var kinds [4]int
	errs := map[api.Errno]int{}
	for range 6000 {
		n := process(r)
		web := sample.Web(n, r.Intn)
		if r.Intn(2) == 0 {
			web = sample.CrossedWeb(n, r.Intn)
		}
		if !fits(n, web) {
			t.Fatalf("%v cannot be folded", web)
		}
		if r.Intn(4) == 0 {
			spoil(n, &web, r)
		}
		for kind := -1; kind != 0; {
			var e api.Errno
			if web, kind, e = wantStep(t, n, web); e == api.OK {
				kinds[kind]++
			}
			errs[e]++
		}
	}
	for kind, times := range kinds {
		if times < 500 {
			t.Errorf("kind %d: %d times", kind, times)
		}
	}
	if errs[api.ErrArg] < 500 || len(errs) > 2 {
		t.Errorf("errors: %v", errs)
	}
}

// spoil changes something of a web, or of what is in it.
func spoil(n api.Net, web *block.Block, r *rand.Rand) {
	near := func(n int) int { return r.Intn(n+3) - 1 }
	l := &web.Links[r.Intn(len(web.Links))]
	k := &web.Kids[r.Intn(len(web.Kids))]
	switch r.Intn(9) {
	case 0:
		l.From = near(len(web.Kids))
	case 1:
		l.To = near(len(web.Kids))
	case 2:
		l.Flow = near(len(n.Flows))
	case 3:
		at := r.Intn(len(web.Links))
		web.Links = slices.Delete(web.Links, at, at+1)
	case 4:
		web.Links = append(web.Links, *l)
	case 5:
		k.Kind, k.Node = block.Gate, r.Intn(len(n.Nodes))
	case 6:
		k.Kind, k.Node = block.Leaf, r.Intn(len(n.Nodes))
	case 7:
		web.Kids = append(web.Kids, block.Block{Kind: block.Empty})
	case 8:
		web.Kind = near(10)
	}
}

// P3: processes that are not right have no webs, whatever the web is.
func TestWrongProcesses(t *testing.T) {
	r := rand.New(rand.NewSource(13))
	wrong := 0
	for range 2000 {
		n := process(r)
		web := sample.Web(n, r.Intn)
		n.Nodes, n.Flows = slices.Clone(n.Nodes), slices.Clone(n.Flows)
		x, f := &n.Nodes[r.Intn(len(n.Nodes))], &n.Flows[r.Intn(len(n.Flows))]
		*[]*int{&x.Kind, &x.A, &f.From, &f.To}[r.Intn(4)] = []int{-1 << 63, -1, 0, 1, 5, 23, 24, 25, 1<<63 - 1}[r.Intn(9)]
		if rule, _ := net.Check(n); rule == 0 {
			continue
		}
		wrong++
		b, e := fold.Fold(n)
		c, f1 := fold.Begin(n)
		d, kind, f2 := fold.Step(n, web)
		zero := block.Block{}
		if e != api.ErrForm || f1 != api.ErrForm || f2 != api.ErrForm || kind != 0 || !reflect.DeepEqual([]block.Block{b, c, d}, []block.Block{zero, zero, zero}) {
			t.Fatalf("%v: %v, %v, %v, %v, %v, %d, %v", n, b, e, c, f1, d, kind, f2)
		}
	}
	if wrong < 1000 {
		t.Errorf("%d wrong processes", wrong)
	}
}
