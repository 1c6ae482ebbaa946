package block_test

import (
	"math/rand"
	"reflect"
	"slices"
	"testing"

	"treenail/api"
	"treenail/block"
	"treenail/sample"
)

// item is a block, what it is a kid of, and how deep it lies.
type item struct {
	b     *block.Block
	outer int
	deep  int
}

// items are a block and all in it, level by level.
func items(b *block.Block) []item {
	l := []item{{b, 0, 1}}
	for i := 0; i < len(l); i++ {
		for k := range l[i].b.Kids {
			l = append(l, item{&l[i].b.Kids[k], l[i].b.Kind, l[i].deep + 1})
		}
	}
	return l
}

// formed tells whether an item is of the table's form.
func formed(n api.Net, x item) bool {
	outs := map[int]int{}
	for _, f := range n.Flows {
		outs[f.From]++
	}
	kind := 0
	if x.b.Node >= 0 && x.b.Node < len(n.Nodes) {
		kind = n.Nodes[x.b.Node].Kind
	}
	name := kindName(x.b.Kind)
	// What is asked: the node's kinds, how many outs it has at the least, how many kids there are, how many args.
	rows := map[string]struct {
		node               []int
		outs, least, great int
		args               int
		outer              []int
	}{
		"empty": {outer: []int{0, 3, 4, 5, 6, 7, 9}, args: 1},
		"leaf":  {node: []int{api.Task, api.Assign, api.Catch}, outer: []int{0, 3, 4, 5, 6, 7, 9}, args: 1},
		"seq":   {least: 2, great: 99, outer: []int{0, 4, 5, 6, 7, 9}, args: 1},
		"par":   {node: []int{api.And}, outs: 2, least: outs[x.b.Node], great: outs[x.b.Node], outer: []int{0, 3, 4, 5, 6, 7, 9}, args: 1},
		"alt":   {node: []int{api.Xor}, outs: 2, least: outs[x.b.Node], great: outs[x.b.Node], outer: []int{0, 3, 4, 5, 6, 7, 9}, args: 1},
		"pick":  {node: []int{api.Event}, outs: 2, least: outs[x.b.Node], great: outs[x.b.Node], outer: []int{0, 3, 4, 5, 6, 7, 9}, args: 1},
		"loop":  {node: []int{api.Xor}, outs: 2, least: 2, great: 4 - outs[x.b.Node], outer: []int{0, 3, 4, 5, 6, 7, 9}, args: 2},
		"gate":  {node: []int{api.Xor, api.And, api.Event}, outer: []int{0, 9}, args: 1},
		"web":   {least: 1, great: 99, outer: []int{0}, args: 1},
		"rules": {outer: []int{0}, args: 1},
	}
	row, ok := rows[name]
	if !ok || !slices.Contains(row.outer, x.outer) || len(x.b.Kids) < row.least || len(x.b.Kids) > row.great {
		return false
	}
	if row.node == nil && x.b.Node != 0 || row.node != nil && !slices.Contains(row.node, kind) || outs[x.b.Node] < row.outs {
		return false
	}
	if x.b.Arg < 0 || x.b.Arg >= row.args {
		return false
	}
	return name == "web" && links(n, *x.b) || name != "web" && len(x.b.Links) == 0
}

func kindName(kind int) string {
	if kind < 0 || kind > 10 {
		return ""
	}
	return []string{"", "empty", "leaf", "seq", "par", "alt", "pick", "loop", "gate", "web", "rules"}[kind]
}

func links(n api.Net, b block.Block) bool {
	from, to := make([]int, len(b.Kids)+1), make([]int, len(b.Kids)+1)
	for _, l := range b.Links {
		if l.From < -1 || l.To < -1 || l.From >= len(b.Kids) || l.To >= len(b.Kids) || l.From == l.To || l.Flow < 0 || l.Flow >= len(n.Flows) {
			return false
		}
		from[l.From+1]++
		to[l.To+1]++
	}
	return from[0] == 1 && to[0] == 1 && len(b.Links) <= 40
}

// check is what is wrong with a block of a right process, and which Tasks, Assigns and Catches stand in it.
func check(n api.Net, b block.Block) (api.Errno, []int) {
	l := items(&b)
	if len(l) > 96 || l[len(l)-1].deep > 24 {
		return api.ErrLong, nil
	}
	times := make([]int, len(n.Nodes))
	for _, x := range l {
		if !formed(n, x) {
			return api.ErrForm, nil
		}
	}
	for _, x := range l {
		if !slices.Contains([]string{"empty", "seq", "web", "rules"}, kindName(x.b.Kind)) {
			times[x.b.Node]++
		}
		for _, f := range n.Flows {
			if x.b.Kind == block.Pick && f.From == x.b.Node {
				times[f.To]++
			}
		}
	}
	var leaves []int
	for i, x := range n.Nodes {
		if times[i] > 1 {
			return api.ErrSame, nil
		}
		if (times[i] == 1 || b.Kind == block.Rules) && slices.Contains([]int{api.Task, api.Assign, api.Catch}, x.Kind) {
			leaves = append(leaves, i)
		}
	}
	return api.OK, leaves
}

// maker makes blocks of nodes that are left.
type maker struct {
	*rand.Rand
	n    api.Net
	left []int
}

func newMaker(r *rand.Rand) *maker {
	n := sample.Net(r.Intn)
	return &maker{r, n, r.Perm(len(n.Nodes))}
}

func (m *maker) outs(i int) []int {
	var l []int
	for _, f := range m.n.Flows {
		if f.From == i {
			l = append(l, f.To)
		}
	}
	return l
}

// use lets a node go; false, if it is gone.
func (m *maker) use(i int) bool {
	at := slices.Index(m.left, i)
	if at < 0 {
		return false
	}
	m.left = slices.Delete(slices.Clone(m.left), at, at+1)
	return true
}

// kid is a block that may stand in any other one (but, if it is a Seq, in a Seq).
func (m *maker) kid(seq bool) block.Block {
	if len(m.left) == 0 || m.Intn(8) == 0 {
		return block.Block{Kind: block.Empty}
	}
	if seq && m.Intn(4) == 0 {
		b := block.Block{Kind: block.Seq}
		for range 2 + m.Intn(3) {
			b.Kids = append(b.Kids, m.kid(false))
		}
		return b
	}
	i := m.left[0]
	m.use(i)
	outs := m.outs(i)
	b := block.Block{Node: i}
	switch kind := m.n.Nodes[i].Kind; {
	case kind == api.Task || kind == api.Assign || kind == api.Catch:
		b.Kind = block.Leaf
		return b
	case len(outs) < 2:
		return m.kid(seq)
	case kind == api.And:
		b.Kind = block.Par
	case kind == api.Xor && len(outs) == 2 && m.Intn(2) == 0:
		b.Kind, b.Arg = block.Loop, m.Intn(2)
	case kind == api.Xor:
		b.Kind = block.Alt
	case kind == api.Event:
		for _, c := range outs {
			if !m.use(c) {
				return m.kid(seq)
			}
		}
		b.Kind = block.Pick
	}
	for range outs {
		b.Kids = append(b.Kids, m.kid(true))
	}
	return b
}

// block is any right block.
func (m *maker) block() block.Block {
	switch m.Intn(6) {
	case 0:
		return block.Block{Kind: block.Rules}
	case 1, 2:
		return m.web()
	}
	return m.kid(true)
}

func (m *maker) web() block.Block {
	b := block.Block{Kind: block.Web}
	for range 1 + m.Intn(6) {
		k := m.kid(true)
		if len(m.left) > 0 && slices.Contains([]int{api.Xor, api.And, api.Event}, m.n.Nodes[m.left[0]].Kind) {
			k = block.Block{Kind: block.Gate, Node: m.left[0]}
			m.use(m.left[0])
		}
		b.Kids = append(b.Kids, k)
	}
	flow := func() int { return m.Intn(len(m.n.Flows)) }
	b.Links = []block.Link{{From: -1, To: m.Intn(len(b.Kids)), Flow: flow()}, {From: m.Intn(len(b.Kids)), To: -1, Flow: flow()}}
	for range m.Intn(6) {
		if p := m.Perm(len(b.Kids)); len(p) > 1 {
			b.Links = append(b.Links, block.Link{From: p[0], To: p[1], Flow: flow()})
		}
	}
	m.Shuffle(len(b.Links), func(i, j int) { b.Links[i], b.Links[j] = b.Links[j], b.Links[i] })
	return b
}

// change changes something of a block, or of one in it.
func (m *maker) change(b *block.Block) {
	l := items(b)
	x, y := l[m.Intn(len(l))].b, copied(*l[m.Intn(len(l))].b)
	near := func(n int) int { return m.Intn(n+3) - 1 }
	switch m.Intn(12) {
	case 0:
		x.Kind = near(10)
	case 1:
		x.Node = near(len(m.n.Nodes))
	case 2:
		x.Arg = near(1)
	case 3:
		x.Kids = x.Kids[:m.Intn(len(x.Kids)+1)]
	case 4:
		x.Kids = append(x.Kids, copied(y))
	case 5:
		*x = copied(y)
	case 6:
		if len(x.Kids) > 0 {
			x.Kids[m.Intn(len(x.Kids))] = copied(y)
		}
	case 7:
		x.Links = append(x.Links, block.Link{From: near(len(x.Kids)), To: near(len(x.Kids)), Flow: near(len(m.n.Flows))})
	case 8:
		if len(b.Links) > 0 {
			k := &b.Links[m.Intn(len(b.Links))]
			*[]*int{&k.From, &k.To, &k.Flow}[m.Intn(3)] = near(len(b.Kids))
		}
	case 9:
		if len(b.Links) > 0 {
			at := m.Intn(len(b.Links))
			b.Links = slices.Delete(b.Links, at, at+1)
		}
	case 10:
		x.Kind, x.Node = block.Gate, near(len(m.n.Nodes))
	case 11:
		for range 40 * m.Intn(2) {
			x.Kids = append(x.Kids, copied(y))
		}
	}
}

func copied(b block.Block) block.Block {
	b.Kids, b.Links = slices.Clone(b.Kids), slices.Clone(b.Links)
	for i := range b.Kids {
		b.Kids[i] = copied(b.Kids[i])
	}
	return b
}

// 10.1, 10.2, 10.3: any blocks, right ones, and ones of which something was changed.
func TestAnyBlocks(t *testing.T) {
	r := rand.New(rand.NewSource(10))
	times := map[api.Errno]int{}
	for range 6000 {
		m := newMaker(r)
		b := m.block()
		if e, _ := check(m.n, b); e != api.OK && e != api.ErrLong {
			t.Fatalf("%v is not right: %v", b, e)
		}
		same := copied(b)
		for range 4 {
			wantBlock(t, m.n, b, times)
			if !block.Same(b, same) {
				t.Fatalf("%v is not %v", b, same)
			}
			m.change(&b)
			wantTexts(t, m.n, same, b)
			same = copied(b)
			if block.Size(b) > 500 {
				break
			}
		}
	}
	for _, e := range []api.Errno{api.OK, api.ErrLong, api.ErrForm, api.ErrSame} {
		if times[e] < 100 {
			t.Errorf("%v: %d times", e, times[e])
		}
	}
}

// wantBlock holds what is told of a block against the test's own reading.
func wantBlock(t *testing.T, n api.Net, b block.Block, times map[api.Errno]int) {
	t.Helper()
	e, leaves := check(n, b)
	times[e]++
	if got := block.Check(n, b); got != e {
		t.Fatalf("Check of %v in %v: %v; want %v", b, n, got, e)
	}
	if l, got := block.Leaves(n, b); got != e || !slices.Equal(l, leaves) {
		t.Fatalf("Leaves of %v in %v: %v, %v; want %v, %v", b, n, l, got, leaves, e)
	}
	if size := block.Size(b); size != len(items(&b)) {
		t.Fatalf("Size of %v: %d", b, size)
	}
	if e != api.OK {
		return
	}
	s, got := block.Text(b)
	if back := sample.Block(s); got != api.OK || !reflect.DeepEqual(trim(back), trim(b)) {
		t.Fatalf("Text of %v: %q, %v", b, s, got)
	}
}

// wantTexts: 10.3, of two blocks of one process.
func wantTexts(t *testing.T, n api.Net, a, b block.Block) {
	t.Helper()
	same := reflect.DeepEqual(trim(a), trim(b))
	if block.Same(a, b) != same || block.Same(b, a) != same {
		t.Fatalf("Same of %v and %v: not %v", a, b, same)
	}
	if block.Check(n, a) != api.OK || block.Check(n, b) != api.OK {
		return
	}
	s, _ := block.Text(a)
	if u, _ := block.Text(b); (s == u) != same {
		t.Fatalf("%v and %v: %s and %s", a, b, s, u)
	}
}

// trim makes nil of lists without an element.
func trim(b block.Block) block.Block {
	b = copied(b)
	for _, x := range items(&b) {
		if len(x.b.Kids) == 0 {
			x.b.Kids = nil
		}
		if len(x.b.Links) == 0 {
			x.b.Links = nil
		}
	}
	return b
}
