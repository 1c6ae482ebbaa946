package rule_test

import (
	"math"
	"reflect"
	"slices"
	"strconv"
	"strings"
	"testing"

	"treenail/api"
	"treenail/rule"
	"treenail/sample"
)

func list(l []int) string {
	s := ""
	for i, f := range l {
		if i > 0 {
			s += "+"
		}
		s += strconv.Itoa(f)
	}
	return s
}

// text is rules, each as its kind, its node, what it needs and what it gives.
func text(l []rule.Rule) string {
	names := []string{"?", "free", "cond", "wait"}
	var words []string
	for _, r := range l {
		words = append(words, names[r.Kind]+":"+strconv.Itoa(r.Node)+":"+list(r.Needs)+">"+list(r.Gives))
	}
	return strings.Join(words, " ")
}

// 14.1: the rules of processes, node by node.
func TestAll(t *testing.T) {
	if rule.Free != 1 || rule.Cond != 2 || rule.Wait != 3 {
		t.Fatal(rule.Free, rule.Cond, rule.Wait)
	}
	for _, c := range []struct{ nodes, flows, want string }{
		{"se", "0-1", "free:1:0>"},
		{"es", "1-0", "free:0:0>"},
		{"ste", "0-1 1-2", "free:1:0>1 free:2:1>"},
		{"sae", "1-2 0-1", "free:1:1>0 free:2:0>"},
		{"smce", "0-1 1-2 2-3", "wait:1:0>1 wait:2:1>2 free:3:2>"},
		{"etsa", "2-3 1-0 3-1", "free:0:1> free:1:2>1 free:3:0>2"},
		// Choices: a rule by each out, then by each in.
		{"sxtxe", "0-1 1-2 1-3 2-3 3-4", "cond:1:0>1 cond:1:0>2 free:2:1>3 free:3:2>4 free:3:3>4 free:4:4>"},
		{"sxtxe", "3-4 2-3 1-3 1-2 0-1", "cond:1:4>2 cond:1:4>3 free:2:3>1 free:3:1>0 free:3:2>0 free:4:0>"},
		{"sxxe", "0-1 1-2 2-3 1-2 1-2", "cond:1:0>1 cond:1:0>3 cond:1:0>4 free:2:1>2 free:2:3>2 free:2:4>2 free:3:2>"},
		{"sxxe", "0-1 1-2 2-1 2-3", "free:1:0>1 free:1:2>1 cond:2:1>2 cond:2:1>3 free:3:3>"},
		// Forks: one rule each.
		{"snne", "0-1 1-2 2-3 1-2 1-2", "free:1:0>1+3+4 free:2:1+3+4>2 free:3:2>"},
		{"snttne", "4-5 3-4 2-4 1-3 1-2 0-1", "free:1:5>3+4 free:2:4>2 free:3:3>1 free:4:1+2>0 free:5:0>"},
		// An event leads to what is behind its catches; these have rules of their own.
		{"svmcxe", "0-1 1-2 1-3 2-4 3-4 4-5", "wait:1:0>3 wait:1:0>4 wait:2:1>3 wait:3:2>4 free:4:3>5 free:4:4>5 free:5:5>"},
		{"svmcmxe", "0-1 1-2 1-3 1-4 2-5 3-5 4-5 5-6", "wait:1:0>4 wait:1:0>5 wait:1:0>6 wait:2:1>4 wait:3:2>5 wait:4:3>6 free:5:4>7 free:5:5>7 free:5:6>7 free:6:7>"},
		// They come by the event's outs, whatever the numbers of the catches and of what is behind these are.
		{"svmcxe", "0-1 1-3 1-2 3-4 2-4 4-5", "wait:1:0>3 wait:1:0>4 wait:2:2>4 wait:3:1>3 free:4:3>5 free:4:4>5 free:5:5>"},
		{"svmcxe", "0-1 1-2 1-3 3-4 2-4 4-5", "wait:1:0>4 wait:1:0>3 wait:2:1>4 wait:3:2>3 free:4:3>5 free:4:4>5 free:5:5>"},
	} {
		l, e := rule.All(sample.Of(c.nodes, c.flows))
		if got := text(l); e != api.OK || got != c.want {
			t.Errorf("%s %s: %s, %v; want %s", c.nodes, c.flows, got, e, c.want)
		}
	}
}

// 14.1: what is no process has no rules.
func TestAllErrors(t *testing.T) {
	right := sample.Of("sxtxe", "0-1 1-2 1-3 2-3 3-4")
	for _, n := range []api.Net{
		{}, {Nodes: right.Nodes}, {Flows: right.Flows}, {Nodes: make([]api.Node, 25)}, {Nodes: right.Nodes, Flows: make([]api.Flow, 41)}, sample.Of("s", ""), sample.Of("sse", "0-2 1-2"),
		sample.Of("ste", "0-1"), sample.Of("steq", "0-1 1-2"), {Nodes: right.Nodes, Flows: right.Flows[1:]}, sample.Of("snte", "0-1 1-2 1-2 2-3"), sample.Of("stet", "0-1 1-2 3-3"),
		{Nodes: []api.Node{{Kind: math.MinInt}, {Kind: math.MaxInt}}, Flows: []api.Flow{{From: math.MinInt, To: math.MaxInt}}},
	} {
		if l, e := rule.All(n); e != api.ErrForm || l != nil {
			t.Errorf("%v: %v, %v", n, l, e)
		}
	}
}

type tokens = [api.MaxFlows]int

// 14.2: what can be done with tokens, and what is made of them.
func TestDo(t *testing.T) {
	for _, c := range []struct {
		needs, gives []int
		held, want   tokens
		can          bool
		e            api.Errno
	}{
		{nil, nil, tokens{}, tokens{}, true, api.OK},
		{nil, nil, tokens{3, 4, -1}, tokens{3, 4, -1}, true, api.OK},
		{nil, []int{0}, tokens{}, tokens{1}, true, api.OK},
		{[]int{0}, nil, tokens{1}, tokens{}, true, api.OK},
		{[]int{0}, []int{1}, tokens{1}, tokens{0, 1}, true, api.OK},
		{[]int{0}, []int{39}, tokens{3, 39: 2}, tokens{2, 39: 3}, true, api.OK},
		{[]int{39}, []int{0}, tokens{39: 1}, tokens{1}, true, api.OK},
		{[]int{1, 2, 5}, []int{3, 4}, tokens{1, 1, 1, 1, 1, 1}, tokens{1, 0, 0, 2, 2}, true, api.OK},
		{[]int{5, 2}, []int{4, 3}, tokens{2: 1, 5: 1}, tokens{3: 1, 4: 1}, true, api.OK},
		// There are too few.
		{[]int{0}, []int{1}, tokens{}, tokens{}, false, api.ErrNone},
		{[]int{0}, []int{1}, tokens{0, 3, 3}, tokens{}, false, api.ErrNone},
		{[]int{0, 1}, nil, tokens{1}, tokens{}, false, api.ErrNone},
		{[]int{0, 1}, nil, tokens{0, 1}, tokens{}, false, api.ErrNone},
		{[]int{0}, []int{0}, tokens{-1}, tokens{}, false, api.ErrNone},
		{[]int{0}, nil, tokens{math.MinInt}, tokens{}, false, api.ErrNone},
		// So many as it stands there.
		{[]int{2, 2}, []int{3}, tokens{2: 1}, tokens{}, false, api.ErrNone},
		{[]int{2, 2}, []int{3}, tokens{2: 2}, tokens{3: 1}, true, api.OK},
		{[]int{2, 3, 2, 2}, nil, tokens{2: 2, 3: 9}, tokens{}, false, api.ErrNone},
		{[]int{2, 3, 2, 2}, nil, tokens{2: 3, 3: 9}, tokens{3: 8}, true, api.OK},
		{nil, []int{2, 2, 2}, tokens{}, tokens{2: 3}, true, api.OK},
		{nil, []int{2, 2, 2}, tokens{2: 1}, tokens{}, true, api.ErrFull},
		{nil, []int{2, 2, 2, 2}, tokens{}, tokens{}, true, api.ErrFull},
		// There is no room; but there is where one is taken.
		{[]int{0}, []int{1}, tokens{1, 2}, tokens{0, 3}, true, api.OK},
		{[]int{0}, []int{1}, tokens{1, 3}, tokens{}, true, api.ErrFull},
		{[]int{0}, []int{1}, tokens{1, 4}, tokens{}, true, api.ErrFull},
		{[]int{0}, []int{1}, tokens{1, math.MaxInt}, tokens{}, true, api.ErrFull},
		{[]int{0}, []int{2, 1}, tokens{1, 3}, tokens{}, true, api.ErrFull},
		{[]int{0}, []int{0}, tokens{3}, tokens{3}, true, api.OK},
		{[]int{0}, []int{0}, tokens{4}, tokens{}, true, api.ErrFull},
		{[]int{0, 0}, []int{0}, tokens{4}, tokens{3}, true, api.OK},
		{[]int{0}, []int{0, 0}, tokens{2}, tokens{3}, true, api.OK},
		{[]int{0}, []int{0, 0}, tokens{3}, tokens{}, true, api.ErrFull},
		{[]int{0}, []int{1}, tokens{0, 3}, tokens{}, false, api.ErrNone},
		// Other flows may hold anything.
		{[]int{0}, []int{1}, tokens{9, math.MinInt, math.MaxInt}, tokens{8, math.MinInt + 1, math.MaxInt}, true, api.OK},
		{[]int{0}, nil, tokens{math.MaxInt}, tokens{math.MaxInt - 1}, true, api.OK},
		// A flow that is none.
		{[]int{40}, nil, tokens{1}, tokens{}, false, api.ErrForm},
		{[]int{-1}, nil, tokens{1}, tokens{}, false, api.ErrForm},
		{[]int{0, math.MinInt}, nil, tokens{1}, tokens{}, false, api.ErrForm},
		{[]int{0, math.MaxInt}, nil, tokens{1}, tokens{}, false, api.ErrForm},
		{[]int{1, 40}, nil, tokens{1}, tokens{}, false, api.ErrForm},
		{[]int{0}, []int{40}, tokens{1}, tokens{}, true, api.ErrForm},
		{[]int{0}, []int{-1}, tokens{1}, tokens{}, true, api.ErrForm},
		{[]int{0}, []int{1, 40}, tokens{1, 3}, tokens{}, true, api.ErrForm},
		{[]int{1}, []int{math.MinInt}, tokens{1}, tokens{}, false, api.ErrForm},
	} {
		// The kind and the node are not asked.
		for _, x := range []int{0, 1, 2, 3, -1, math.MinInt, math.MaxInt} {
			r := rule.Rule{Kind: x, Node: x, Needs: slices.Clone(c.needs), Gives: slices.Clone(c.gives)}
			if can := rule.Can(r, c.held); can != c.can {
				t.Errorf("Can(%v, %v): %v", r, c.held, can)
			}
			if got, e := rule.Do(r, c.held); got != c.want || e != c.e {
				t.Errorf("Do(%v, %v): %v, %v; want %v, %v", r, c.held, got, e, c.want, c.e)
			}
			if !slices.Equal(r.Needs, c.needs) || !slices.Equal(r.Gives, c.gives) {
				t.Errorf("changed: %v", r)
			}
		}
	}
}

// 14.2: very many flows.
func TestMany(t *testing.T) {
	many := rule.Rule{Needs: slices.Repeat([]int{7}, 1<<20), Gives: []int{7, 7}}
	if got, e := rule.Do(many, tokens{7: 1 << 20}); got != (tokens{7: 2}) || e != api.OK {
		t.Errorf("%v, %v", got, e)
	}
	if got, e := rule.Do(many, tokens{7: 1<<20 - 1}); got != (tokens{}) || e != api.ErrNone || rule.Can(many, tokens{7: 1<<20 - 1}) {
		t.Errorf("%v, %v", got, e)
	}
	many.Needs, many.Gives = nil, slices.Repeat([]int{7}, 1<<20)
	if got, e := rule.Do(many, tokens{}); got != (tokens{}) || e != api.ErrFull {
		t.Errorf("%v, %v", got, e)
	}
}

// The example.
func TestExample(t *testing.T) {
	l, e := rule.All(sample.Of("ste", "0-1 1-2"))
	want := []rule.Rule{{Kind: rule.Free, Node: 1, Needs: []int{0}, Gives: []int{1}}, {Kind: rule.Free, Node: 2, Needs: []int{1}}}
	if e != api.OK || len(l) != 2 || !reflect.DeepEqual(l[0], want[0]) || !slices.Equal(l[1].Needs, want[1].Needs) || len(l[1].Gives) != 0 {
		t.Errorf("%v, %v; want %v", l, e, want)
	}
}
