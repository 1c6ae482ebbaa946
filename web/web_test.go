package web_test

import (
	"math"
	"reflect"
	"slices"
	"strconv"
	"strings"
	"testing"

	"treenail/api"
	"treenail/block"
	"treenail/fold"
	"treenail/sample"
	"treenail/web"
)

// gates has 1 an And (2 outs), 2 an And (2 ins), 3 an Xor (2 outs), 4 an Xor (2 ins), 5 an Event (of 6 and 7), 8 an Xor (2 ins), 9 to 12 Tasks and
// an Assign, 13 an Xor (3 outs), 14 an Xor (3 ins), 15 an And (3 outs), 16 an And (3 ins).
func gates() api.Net {
	return sample.Of("snnxxvmcxtttaxxnne", "0-1 1-2 1-2 2-3 3-4 3-4 4-5 5-6 5-7 6-8 7-8 8-9 9-10 10-11 11-12 12-13 13-14 13-14 13-14 14-15 15-16 15-16 15-16 16-17")
}

// bits are truths as 0 and 1.
func bits(l []bool) string {
	s := ""
	for _, x := range l {
		if x {
			s += "1"
		} else {
			s += "0"
		}
	}
	return s
}

func wantOrder(t *testing.T, what string, n api.Net, b block.Block, want ...int) {
	t.Helper()
	if l, e := web.Order(n, b); e != api.OK || !slices.Equal(l, want) {
		t.Errorf("Order of %s: %v, %v; want %v", what, l, e, want)
	}
}

func wantFates(t *testing.T, what string, n api.Net, b block.Block, choices []int, runs, taken string) {
	t.Helper()
	if r, k, e := web.Fates(n, b, choices); e != api.OK || bits(r) != runs || bits(k) != taken {
		t.Errorf("Fates of %s with %v: %s, %s, %v; want %s, %s", what, choices, bits(r), bits(k), e, runs, taken)
	}
}

// 13.1: the least kid of which all that lead to it are taken comes next.
func TestOrder(t *testing.T) {
	n := gates()
	for _, c := range []struct {
		web  string
		want []int
	}{
		{"(web 9 [-1 0 0] [0 -1 1])", []int{0}},
		{"(web - [0 -1 1] [-1 0 0])", []int{0}},
		{"(web 9 10 11 [-1 2 0] [2 0 1] [0 1 2] [1 -1 3])", []int{2, 0, 1}},
		{"(web 9 9 [-1 1 0] [1 0 1] [0 -1 3])", []int{1, 0}},
		{"(web g1 9 g2 10 [-1 0 0] [0 1 1] [0 3 2] [1 2 3] [3 2 4] [2 -1 5])", []int{0, 1, 3, 2}},
		{"(web g2 10 9 g1 [-1 3 0] [3 2 1] [3 1 2] [2 0 3] [1 0 4] [0 -1 5])", []int{3, 1, 2, 0}},
		{"(web g1 9 g2 10 11 [-1 0 0] [0 4 1] [0 3 2] [4 1 3] [1 2 3] [3 2 4] [2 -1 5])", []int{0, 3, 4, 1, 2}},
		// Two links between the same kids.
		{"(web g3 g4 [-1 0 0] [0 1 4] [0 1 5] [1 -1 6])", []int{0, 1}},
		{"(web g4 g3 [-1 1 0] [1 0 4] [1 0 5] [0 -1 6])", []int{1, 0}},
		// An Event that is folded is no Gate.
		{"(web (pick:5 - 9) (loop:3/1 - 10) [-1 1 0] [1 0 4] [0 -1 6])", []int{1, 0}},
		// A fork within a fork, joined crosswise.
		{"(web g1 g15 9 10 g2 g16 [-1 0 0] [0 1 1] [0 4 2] [1 2 3] [1 5 4] [1 5 4] [2 4 5] [4 3 6] [3 5 7] [5 -1 8])", []int{0, 1, 2, 4, 3, 5}},
	} {
		wantOrder(t, c.web, n, sample.Block(c.web), c.want...)
	}
}

// 13.2: which kids run, and which links are taken.
func TestFates(t *testing.T) {
	n := gates()
	for _, c := range []struct {
		web         string
		choices     string
		runs, taken string
	}{
		{"(web 9 [-1 0 0] [0 -1 1])", "", "1", "11"},
		{"(web 9 10 - [1 -1 1] [2 1 1] [0 2 4] [-1 0 0])", "", "111", "1111"},
		{"(web (alt:3 9 -) (par:1 - -) [-1 0 0] [0 1 1] [1 -1 2])", "1 1", "11", "111"},
		// A choice between a task and nothing, and with its links in another order.
		{"(web g3 9 g4 [-1 0 0] [0 1 4] [0 2 5] [1 2 3] [2 -1 6])", "", "111", "11011"},
		{"(web g3 9 g4 [-1 0 0] [0 1 4] [0 2 5] [1 2 3] [2 -1 6])", "0", "111", "11011"},
		{"(web g3 9 g4 [-1 0 0] [0 1 4] [0 2 5] [1 2 3] [2 -1 6])", "1", "101", "10101"},
		{"(web g3 9 g4 [-1 0 0] [0 2 5] [0 1 4] [1 2 3] [2 -1 6])", "0", "101", "11001"},
		{"(web g3 9 g4 [-1 0 0] [0 2 5] [0 1 4] [1 2 3] [2 -1 6])", "1", "111", "10111"},
		// The out is at the choice's place mod how many there are.
		{"(web g13 9 10 g14 [-1 0 0] [0 1 16] [0 2 17] [0 3 18] [1 3 1] [2 3 2] [3 -1 19])", "0", "1101", "1100101"},
		{"(web g13 9 10 g14 [-1 0 0] [0 1 16] [0 2 17] [0 3 18] [1 3 1] [2 3 2] [3 -1 19])", "1", "1011", "1010011"},
		{"(web g13 9 10 g14 [-1 0 0] [0 1 16] [0 2 17] [0 3 18] [1 3 1] [2 3 2] [3 -1 19])", "2", "1001", "1001001"},
		{"(web g13 9 10 g14 [-1 0 0] [0 1 16] [0 2 17] [0 3 18] [1 3 1] [2 3 2] [3 -1 19])", "3", "1101", "1100101"},
		{"(web g13 9 10 g14 [-1 0 0] [0 1 16] [0 2 17] [0 3 18] [1 3 1] [2 3 2] [3 -1 19])", "7", "1011", "1010011"},
		{"(web g13 9 10 g14 [-1 0 0] [0 1 16] [0 2 17] [0 3 18] [1 3 1] [2 3 2] [3 -1 19])", "9223372036854775807", "1011", "1010011"},
		// An And takes all its outs, and asks for all its ins.
		{"(web g1 9 g2 [-1 0 0] [0 1 1] [0 2 2] [1 2 3] [2 -1 4])", "1", "111", "11111"},
		{"(web g15 9 g16 [-1 0 0] [0 1 1] [0 2 2] [0 2 2] [1 2 3] [2 -1 4])", "", "111", "111111"},
		{"(web g1 9 g4 [-1 0 0] [0 1 1] [0 2 2] [1 2 3] [2 -1 4])", "", "111", "11111"},
		{"(web g3 9 g2 [-1 0 0] [0 1 1] [0 2 2] [1 2 3] [2 -1 4])", "0", "110", "11010"},
		{"(web g3 9 g2 [-1 0 0] [0 1 1] [0 2 2] [1 2 3] [2 -1 4])", "1", "100", "10100"},
		{"(web g3 9 g2 10 [-1 0 0] [0 1 1] [0 2 2] [1 2 3] [2 3 4] [3 -1 5])", "0", "1100", "110100"},
		{"(web g13 9 10 g16 [-1 0 0] [0 1 1] [0 2 2] [0 3 2] [1 3 3] [2 3 3] [3 -1 4])", "1", "1010", "1010010"},
	} {
		wantFates(t, c.web, n, sample.Block(c.web), numbers(c.choices), c.runs, c.taken)
	}
}

func numbers(s string) []int {
	var l []int
	for _, w := range strings.Fields(s) {
		x, _ := strconv.Atoi(w)
		l = append(l, x)
	}
	return l
}

// 13.2: choices are of the splitting Xors in the kids' order, one behind the other, of dead ones as well; 0, if there are no more.
func TestChoices(t *testing.T) {
	n := sample.Of("sxxxxxxe", "0-1 1-2 1-3 2-4 2-4 3-5 3-5 4-6 5-6 6-7")
	b := sample.Block("(web g1 g2 g3 g4 g5 g6 [-1 0 0] [0 1 1] [0 2 2] [1 3 3] [1 3 4] [2 4 5] [2 4 6] [3 5 7] [4 5 8] [5 -1 9])")
	for _, c := range []struct{ choices, runs, taken string }{
		{"", "110101", "1101000101"},
		{"0 1", "110101", "1100100101"},
		{"0 1 1", "110101", "1100100101"},
		{"1", "101011", "1010010011"},
		{"1 1", "101011", "1010010011"},
		{"1 1 0", "101011", "1010010011"},
		{"1 0 1", "101011", "1010001011"},
		{"3 2 5 1 1 1", "101011", "1010001011"},
	} {
		wantFates(t, "choices", n, b, numbers(c.choices), c.runs, c.taken)
	}
	// The kids' places are not their order: the Xor that comes first is the last kid here, and the dead one stands between.
	b = sample.Block("(web g3 g2 g6 g4 g5 g1 [-1 5 0] [5 1 1] [5 0 2] [1 3 3] [1 3 4] [0 4 5] [0 4 6] [3 2 7] [4 2 8] [2 -1 9])")
	wantOrder(t, "kids in another order", n, b, 5, 0, 1, 3, 4, 2)
	wantFates(t, "kids in another order", n, b, []int{1, 1, 0}, "101011", "1010001011")
	wantFates(t, "kids in another order", n, b, []int{0, 0, 1}, "011101", "1100100101")
}

// 13.1, 13.2: the example, and webs with which processes begin.
func TestProcesses(t *testing.T) {
	n := sample.Of("sxtxe", "0-1 1-2 1-3 2-3 3-4")
	b, _ := fold.Begin(n)
	wantOrder(t, "the example", n, b, 0, 1, 2)
	wantFates(t, "the example", n, b, []int{1}, "101", "10101")
	n = sample.Of("etxsx", "2-1 2-4 4-0 1-4 3-2")
	b, _ = fold.Begin(n)
	wantOrder(t, "nodes in another order", n, b, 1, 0, 2)
	wantFates(t, "nodes in another order", n, b, []int{1}, "011", "01101")
	n = sample.Of("snnttnne", "0-1 1-2 1-5 2-3 2-6 3-5 5-4 4-6 6-7")
	b, _ = fold.Begin(n)
	wantOrder(t, "a fork within a fork", n, b, 0, 1, 2, 4, 3, 5)
	wantFates(t, "a fork within a fork", n, b, []int{1}, "111111", "111111111")
}

// wantError asks for an error of Order, and of Fates, with choices and without.
func wantError(t *testing.T, what string, n api.Net, b block.Block, want api.Errno) {
	t.Helper()
	if l, e := web.Order(n, b); e != want || l != nil {
		t.Errorf("Order of %s: %v, %v; want %v", what, l, e, want)
	}
	for _, choices := range [][]int{nil, {1}, {-1}} {
		if r, k, e := web.Fates(n, b, choices); e != want || r != nil || k != nil {
			t.Errorf("Fates of %s: %v, %v, %v; want %v", what, r, k, e, want)
		}
	}
}

// 13.1, 13.2: fold.Step's errors, then a Gate of an Event, then what goes round; then choices.
func TestErrors(t *testing.T) {
	n := gates()
	for _, s := range []string{
		"-", "9", "g1", "g5", "*", "(seq 9 10)", "(web)", "(web [-1 -1 0])", "(web 9)", "(web 9 [-1 0 0])", "(web 9 [-1 0 99] [0 -1 0])", "(web 1 [-1 0 0] [0 -1 0])",
		"(web g1 [-1 0 0] [0 -1 0])", "(web g5 [-1 0 0] [0 -1 0])", "(web 9 10 [-1 0 0] [0 -1 0])", "(web 9 [-1 0 0] [0 -1 0] [0 0 0])", "(web (seq 9) [-1 0 0] [0 -1 0])",
	} {
		wantError(t, s, n, sample.Block(s), api.ErrArg)
		wantError(t, s, api.Net{}, sample.Block(s), api.ErrForm)
	}
	wantError(t, "no block", n, block.Block{}, api.ErrArg)
	for _, s := range []string{
		"(web g5 6 7 g8 [-1 0 6] [0 1 7] [0 2 8] [1 3 9] [2 3 10] [3 -1 11])", "(web g5 g4 [-1 0 0] [0 1 7] [0 1 8] [1 -1 11])",
		"(web g4 g5 [-1 0 0] [0 1 1] [1 0 7] [1 -1 8])", "(web 9 10 g4 g5 [-1 0 0] [0 -1 0] [1 2 1] [2 3 1] [3 2 7] [3 1 8])",
	} {
		wantError(t, s, n, sample.Block(s), api.ErrForm)
	}
	for _, s := range []string{
		"(web g4 g3 [-1 0 0] [0 1 1] [1 0 4] [1 -1 5])", "(web g4 9 g3 10 [-1 0 0] [0 1 1] [1 2 1] [2 3 4] [3 0 6] [2 -1 5])", "(web g2 g1 [-1 0 0] [0 1 1] [1 0 4] [1 -1 5])",
		"(web 9 g4 g3 [-1 0 0] [0 -1 0] [1 2 1] [2 1 4] [2 1 5])", "(web 9 10 11 [-1 0 0] [0 -1 0] [1 2 1] [2 1 1])",
	} {
		wantError(t, s, n, sample.Block(s), api.ErrState)
	}
	wantError(t, "a wrong process", api.Net{Nodes: n.Nodes}, sample.Block("(web 9 [-1 0 0] [0 -1 0])"), api.ErrForm)
	alone := sample.Of("se", "0-1")
	b, _ := fold.Begin(alone)
	wantError(t, "a Start and an End alone", alone, b, api.ErrArg)
}

// 13.2: a choice below 0 is none, also where no Xor is.
func TestWrongChoices(t *testing.T) {
	n := gates()
	for _, s := range []string{"(web 9 [-1 0 0] [0 -1 1])", "(web g3 9 g4 [-1 0 0] [0 1 4] [0 2 5] [1 2 3] [2 -1 6])"} {
		for _, choices := range [][]int{{-1}, {0, -1}, {1, 2, -3, 4}, {math.MinInt}, {0, 0, 0, 0, math.MinInt}} {
			if r, k, e := web.Fates(n, sample.Block(s), choices); e != api.ErrArg || r != nil || k != nil {
				t.Errorf("Fates of %s with %v: %v, %v, %v", s, choices, r, k, e)
			}
		}
		if _, e := web.Order(n, sample.Block(s)); e != api.OK {
			t.Errorf("Order of %s: %v", s, e)
		}
	}
}

// 13.1, 13.2: so many kids and links as a web may have.
func TestMost(t *testing.T) {
	n := gates()
	s, order := "(web"+strings.Repeat(" -", 39)+" [-1 38 0] [0 -1 1]", []int{38}
	for i := 38; i > 0; i-- {
		s += " [" + strconv.Itoa(i) + " " + strconv.Itoa(i-1) + " 1]"
		order = append(order, i-1)
	}
	b := sample.Block(s + ")")
	wantOrder(t, "39 Empties", n, b, order...)
	wantFates(t, "39 Empties", n, b, nil, strings.Repeat("1", 39), strings.Repeat("1", 40))
	b.Links = append(b.Links, block.Link{From: 0, To: 38})
	wantError(t, "41 links", n, b, api.ErrArg)
}

// R3, R6: answers are new memory, and the same call tells the same.
func TestMemory(t *testing.T) {
	n := gates()
	b := sample.Block("(web g3 9 g4 [-1 0 0] [0 1 4] [0 2 5] [1 2 3] [2 -1 6])")
	was, choices := sample.Block("(web g3 9 g4 [-1 0 0] [0 1 4] [0 2 5] [1 2 3] [2 -1 6])"), []int{1, 5, 7}
	r, k, _ := web.Fates(n, b, choices[:1])
	l, _ := web.Order(n, b)
	for i := range r[:cap(r)] {
		r[:cap(r)][i] = true
	}
	if bits(k) != "10101" {
		t.Errorf("what is written into one list stands in the other: %s", bits(k))
	}
	for i := range k[:cap(k)] {
		k[:cap(k)][i] = true
	}
	clear(l[:cap(l)])
	if !reflect.DeepEqual(b, was) || !slices.Equal(choices, []int{1, 5, 7}) {
		t.Errorf("changed: %v, %v", b, choices)
	}
	wantFates(t, "the same web", n, b, choices[:1], "101", "10101")
	wantOrder(t, "the same web", n, b, 0, 1, 2)
}
