package block_test

import (
	"math/rand"
	"reflect"
	"slices"
	"testing"

	"treenail/api"
	"treenail/block"
	"treenail/sample"
)

// item is a block, what it is a kid of, and how deep it lies.
type item struct {
	b     *block.Block
	outer int
	deep  int
}

// items are a block and all in it, level by level.
func items(b *block.Block) []item {
	l := []item{{b, 0, 1}}
	for i := 0; i < len(l); i++ {
		for k := range l[i].b.Kids {
			l = append(l, item{&l[i].b.Kids[k], l[i].b.Kind, l[i].deep + 1})
		}
	}
	return l
}

// formed tells whether an item is of the table's form.
func formed(n api.Net, x item) bool {
	outs := map[int]int{}
	for _, f := range n.Flows {
		outs[f.From]++
	}
	kind := 0
	if x.b.Node >= 0 && x.b.Node < len(n.Nodes) {
		kind = n.Nodes[x.b.Node].Kind
	}
	name := kindName(x.b.Kind)
	// What is asked: the node's kinds, how many outs it has at the least, how many kids there are, how many args.
	rows := map[string]struct {
		node               []int
		outs, least, great int
		args               int
		outer              []int
	}{
		"empty": {outer: []int{0, 3, 4, 5, 6, 7, 9}, args: 1},
		"leaf":  {node: []int{api.Task, api.Assign, api.Catch}, outer: []int{0, 3, 4, 5, 6, 7, 9}, args: 1},
		"seq":   {least: 2, great: 99, outer: []int{0, 4, 5, 6, 7, 9}, args: 1},
		"par":   {node: []int{api.And}, outs: 2, least: outs[x.b.Node], great: outs[x.b.Node], outer: []int{0, 3, 4, 5, 6, 7, 9}, args: 1},
		"alt":   {node: []int{api.Xor}, outs: 2, least: outs[x.b.Node], great: outs[x.b.Node], outer: []int{0, 3, 4, 5, 6, 7, 9}, args: 1},
		"pick":  {node: []int{api.Event}, outs: 2, least: outs[x.b.Node], great: outs[x.b.Node], outer: []int{0, 3, 4, 5, 6, 7, 9}, args: 1},
		"loop":  {node: []int{api.Xor}, outs: 2, least: 2, great: 4 - outs[x.b.Node], outer: []int{0, 3, 4, 5, 6, 7, 9}, args: 2},
		"gate":  {node: []int{api.Xor, api.And, api.Event}, outer: []int{0, 9}, args: 1},
		"web":   {least: 1, great: 99, outer: []int{0}, args: 1},
		"rules": {outer: []int{0}, args: 1},
	}
	row, ok := rows[name]
	if !ok || !slices.Contains(row.outer, x.outer) || len(x.b.Kids) < row.least || len(x.b.Kids) > row.great {
		return false
	}
	if row.node == nil && x.b.Node != 0 || row.node != nil && !slices.Contains(row.node, kind) || outs[x.b.Node] < row.outs {
		return false
	}
	if x.b.Arg < 0 || x.b.Arg >= row.args {
		return false
	}
	return name == "web" && links(n, *x.b) || name != "web" && len(x.b.Links) == 0
}

func kindName(kind int) string {
	if kind < 0 || kind > 10 {
		return ""
	}
	return []string{"", "empty", "leaf", "seq", "par", "alt", "pick", "loop", "gate", "web", "rules"}[kind]
}

func links(n api.Net, b block.Block) bool {
	from, to := make([]int, len(b.Kids)+1), make([]int, len(b.Kids)+1)
	for _, l := range b.Links {
		if l.From < -1 || l.To < -1 || l.From >= len(b.Kids) || l.To >= len(b.Kids) || l.From == l.To || l.Flow < 0 || l.Flow >= len(n.Flows) {
			return false
		}
		from[l.From+1]++
		to[l.To+1]++
	}
	return from[0] == 1 && to[0] == 1 && len(b.Links) <= 40
}

// check is what is wrong with a block of a right process, and which Tasks, Assigns and Catches stand in it.
func check(n api.Net, b block.Block) (api.Errno, []int) {
	l := items(&b)
	if len(l) > 96 || l[len(l)-1].deep > 24 {
		return api.ErrLong, nil
	}
	times := make([]int, len(n.Nodes))
	for _, x := range l {
		if !formed(n, x) {
			return api.ErrForm, nil
		}
	}
	for _, x := range l {
		if !slices.Contains([]string{"empty", "seq", "web", "rules"}, kindName(x.b.Kind)) {
			times[x.b.Node]++
		}
		for _, f := range n.Flows {
			if x.b.Kind == block.Pick && f.From == x.b.Node {
				times[f.To]++
			}
		}
	}
	var leaves []int
	for i, x := range n.Nodes {
		if times[i] > 1 {
			return api.ErrSame, nil
		}
		if (times[i] == 1 || b.Kind == block.Rules) && slices.Contains([]int{api.Task, api.Assign, api.Catch}, x.Kind) {
			leaves = append(leaves, i)
		}
	}
	return api.OK, leaves
}

// change changes something of a block, or of one in it.
func change(n api.Net, b *block.Block, r *rand.Rand) {
	l := items(b)
	x, y := l[r.Intn(len(l))].b, copied(*l[r.Intn(len(l))].b)
	near := func(most int) int { return r.Intn(most+3) - 1 }
	switch r.Intn(12) {
	case 0:
		x.Kind = near(10)
	case 1:
		x.Node = near(len(n.Nodes))
	case 2:
		x.Arg = near(1)
	case 3:
		x.Kids = x.Kids[:r.Intn(len(x.Kids)+1)]
	case 4:
		x.Kids = append(x.Kids, copied(y))
	case 5:
		*x = copied(y)
	case 6:
		if len(x.Kids) > 0 {
			x.Kids[r.Intn(len(x.Kids))] = copied(y)
		}
	case 7:
		x.Links = append(x.Links, block.Link{From: near(len(x.Kids)), To: near(len(x.Kids)), Flow: near(len(n.Flows))})
	case 8:
		if len(b.Links) > 0 {
			k := &b.Links[r.Intn(len(b.Links))]
			*[]*int{&k.From, &k.To, &k.Flow}[r.Intn(3)] = near(len(b.Kids))
		}
	case 9:
		if len(b.Links) > 0 {
			at := r.Intn(len(b.Links))
			b.Links = slices.Delete(b.Links, at, at+1)
		}
	case 10:
		x.Kind, x.Node = block.Gate, near(len(n.Nodes))
	case 11:
		for range 40 * r.Intn(2) {
			x.Kids = append(x.Kids, copied(y))
		}
	}
}

func copied(b block.Block) block.Block {
	b.Kids, b.Links = slices.Clone(b.Kids), slices.Clone(b.Links)
	for i := range b.Kids {
		b.Kids[i] = copied(b.Kids[i])
	}
	return b
}

// 10.1, 10.2, 10.3: any blocks, right ones, and ones of which something was changed.
func TestAnyBlocks(t *testing.T) {
	r := rand.New(rand.NewSource(10))
	times := map[api.Errno]int{}
	for range 6000 {
		n := sample.Net(r.Intn)
		b := sample.Piece(n, r.Intn)
		if e, _ := check(n, b); e != api.OK && e != api.ErrLong {
			t.Fatalf("%v is not right: %v", b, e)
		}
		same := copied(b)
		for range 4 {
			wantBlock(t, n, b, times)
			if !block.Same(b, same) {
				t.Fatalf("%v is not %v", b, same)
			}
			change(n, &b, r)
			wantTexts(t, n, same, b)
			same = copied(b)
			if block.Size(b) > 500 {
				break
			}
		}
	}
	for _, e := range []api.Errno{api.OK, api.ErrLong, api.ErrForm, api.ErrSame} {
		if times[e] < 100 {
			t.Errorf("%v: %d times", e, times[e])
		}
	}
}

// wantBlock holds what is told of a block against the test's own reading.
func wantBlock(t *testing.T, n api.Net, b block.Block, times map[api.Errno]int) {
	t.Helper()
	e, leaves := check(n, b)
	times[e]++
	if got := block.Check(n, b); got != e {
		t.Fatalf("Check of %v in %v: %v; want %v", b, n, got, e)
	}
	if l, got := block.Leaves(n, b); got != e || !slices.Equal(l, leaves) {
		t.Fatalf("Leaves of %v in %v: %v, %v; want %v, %v", b, n, l, got, leaves, e)
	}
	if size := block.Size(b); size != len(items(&b)) {
		t.Fatalf("Size of %v: %d", b, size)
	}
	if e != api.OK {
		return
	}
	s, got := block.Text(b)
	if back := sample.Block(s); got != api.OK || !reflect.DeepEqual(trim(back), trim(b)) {
		t.Fatalf("Text of %v: %q, %v", b, s, got)
	}
}

// wantTexts: 10.3, of two blocks of one process.
func wantTexts(t *testing.T, n api.Net, a, b block.Block) {
	t.Helper()
	same := reflect.DeepEqual(trim(a), trim(b))
	if block.Same(a, b) != same || block.Same(b, a) != same {
		t.Fatalf("Same of %v and %v: not %v", a, b, same)
	}
	if block.Check(n, a) != api.OK || block.Check(n, b) != api.OK {
		return
	}
	s, _ := block.Text(a)
	if u, _ := block.Text(b); (s == u) != same {
		t.Fatalf("%v and %v: %s and %s", a, b, s, u)
	}
}

// trim makes nil of lists without an element.
func trim(b block.Block) block.Block {
	b = copied(b)
	for _, x := range items(&b) {
		if len(x.b.Kids) == 0 {
			x.b.Kids = nil
		}
		if len(x.b.Links) == 0 {
			x.b.Links = nil
		}
	}
	return b
}
