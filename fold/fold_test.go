package fold_test

import (
	"cmp"
	"math"
	"math/rand"
	"reflect"
	"slices"
	"strconv"
	"strings"
	"testing"
	"unsafe"

	"treenail/api"
	"treenail/block"
	"treenail/fold"
	"treenail/net"
	"treenail/sample"
)

func wantText(t *testing.T, what string, b block.Block, e api.Errno, want string) {
	t.Helper()
	if s, f := block.Text(b); s != want || e != api.OK || f != api.OK {
		t.Errorf("%s: %q, %v, %v; want %q", what, s, e, f, want)
	}
}

// 11.1: what is left of processes.
func TestFold(t *testing.T) {
	for _, c := range []struct{ nodes, flows, want string }{
		{"se", "0-1", "-"},
		{"es", "1-0", "-"},
		{"ste", "0-1 1-2", "1"},
		{"sace", "0-1 1-2 2-3", "(seq 1 2)"},
		{"tsmea", "1-2 2-4 4-0 0-3", "(seq 2 4 0)"},
		{"sxtxe", "0-1 1-2 1-3 2-3 3-4", "(alt:1 2 -)"},
		{"sxtxe", "0-1 1-3 1-2 2-3 3-4", "(alt:1 - 2)"},
		{"sxxe", "0-1 1-2 1-2 1-2 2-3", "(alt:1 - - -)"},
		{"snttne", "0-1 1-3 1-2 2-4 3-4 4-5", "(par:1 3 2)"},
		{"snne", "0-1 1-2 1-2 2-3", "(par:1 - -)"},
		{"svmctxe", "0-1 1-2 1-3 2-4 4-5 3-5 5-6", "(pick:1 4 -)"},
		{"svmctxe", "0-1 1-3 1-2 2-4 4-5 3-5 5-6", "(pick:1 - 4)"},
		{"svmcttxe", "0-1 1-2 1-3 2-4 4-5 5-6 3-6 6-7", "(pick:1 (seq 4 5) -)"},
		{"svmcxnne", "0-1 1-2 1-3 3-5 5-6 5-6 6-4 2-4 4-7", "(pick:1 - (par:5 - -))"},
		{"sxtxte", "0-1 1-2 2-3 3-4 4-1 3-5", "(loop:3/1 2 4)"},
		{"sxtxte", "0-1 1-2 2-3 3-5 3-4 4-1", "(loop:3/0 2 4)"},
		{"sxxe", "0-1 1-2 2-1 2-3", "(loop:2/1 - -)"},
		{"sxxte", "0-1 2-3 1-2 2-1 3-4", "(seq (loop:2/0 - -) 3)"},
		{"sxxxxe", "0-1 1-2 2-3 3-2 3-4 4-1 4-5", "(loop:4/1 (loop:3/1 - -) -)"},
		{"sxnttnxe", "0-1 1-2 2-3 2-4 3-5 4-5 5-6 6-7 6-1", "(loop:6/0 (par:2 3 4) -)"},
		// What is not joined as it was split.
		{"sntxe", "0-1 1-2 1-3 2-3 3-4", "(web g1 2 g3 [-1 0 0] [0 1 1] [0 2 2] [1 2 3] [2 -1 4])"},
		{"sxtne", "0-1 1-2 1-3 2-3 3-4", "(web g1 2 g3 [-1 0 0] [0 1 1] [0 2 2] [1 2 3] [2 -1 4])"},
		{"svmcne", "0-1 1-2 1-3 2-4 3-4 4-5", "(web g1 2 3 g4 [-1 0 0] [0 1 1] [0 2 2] [1 3 3] [2 3 4] [3 -1 5])"},
		// A choice with three outs that goes round, a way back to where three ways meet.
		{"svmcxnnxe", "0-1 1-2 1-3 3-5 5-6 5-6 6-4 2-4 4-7 7-8 7-4", "(web g1 2 (seq 3 (par:5 - -)) g4 g7 [-1 0 0] [0 1 1] [0 2 2] [2 3 6] [1 3 7] [3 4 8] [4 -1 9] [4 3 10])"},
		{"sxxxe", "0-1 1-2 2-1 2-3 2-3 3-4", "(web g1 g2 g3 [-1 0 0] [0 1 1] [1 0 2] [1 2 3] [1 2 4] [2 -1 5])"},
		// A fork within a fork, joined crosswise.
		{"snnttnne", "0-1 1-2 1-5 2-3 2-6 3-5 5-4 4-6 6-7", "(web g1 g2 3 4 g5 g6 [-1 0 0] [0 1 1] [0 4 2] [1 2 3] [1 5 4] [2 4 5] [4 3 6] [3 5 7] [5 -1 8])"},
		// Some of it can be folded.
		{"sntnttnne", "0-1 1-2 2-3 1-7 3-4 3-5 4-6 5-6 6-7 7-8", "(par:1 (seq 2 (par:3 4 5)) -)"},
		{"snttxe", "0-1 1-2 2-3 3-4 1-4 4-5", "(web g1 (seq 2 3) g4 [-1 0 0] [0 1 1] [1 2 3] [0 2 4] [2 -1 5])"},
	} {
		n := sample.Of(c.nodes, c.flows)
		b, e := fold.Fold(n)
		wantText(t, c.nodes+" "+c.flows, b, e, c.want)
	}
}

// 11.1: the web with which it begins: kids by the nodes' numbers, links by the flows'.
func TestBegin(t *testing.T) {
	for _, c := range []struct{ nodes, flows, want string }{
		{"se", "0-1", "(web [-1 -1 0])"},
		{"es", "1-0", "(web [-1 -1 0])"},
		{"ste", "1-2 0-1", "(web 1 [0 -1 0] [-1 0 1])"},
		{"xetsax", "4-5 5-1 2-5 0-2 0-4 3-0", "(web g0 2 4 g5 [2 3 0] [3 -1 1] [1 3 2] [0 1 3] [0 2 4] [-1 0 5])"},
		{"svmcxnne", "0-1 1-2 1-3 2-4 3-4 4-5 5-6 5-6 6-7", "(web g1 2 3 g4 g5 g6 [-1 0 0] [0 1 1] [0 2 2] [1 3 3] [2 3 4] [3 4 5] [4 5 6] [4 5 7] [5 -1 8])"},
	} {
		b, e := fold.Begin(sample.Of(c.nodes, c.flows))
		wantText(t, c.nodes+" "+c.flows, b, e, c.want)
	}
	for _, n := range []api.Net{{}, sample.Of("s", ""), sample.Of("sse", "0-2"), sample.Of("ste", "0-1"), {Nodes: make([]api.Node, 25)}} {
		b, e := fold.Begin(n)
		c, f := fold.Fold(n)
		if e != api.ErrForm || f != api.ErrForm || !reflect.DeepEqual([]block.Block{b, c}, make([]block.Block, 2)) {
			t.Errorf("%v: %v, %v, %v, %v", n, b, e, c, f)
		}
	}
}

// gates has 1 an And (2 outs), 2 an And (2 ins), 3 an Xor (2 outs), 4 an Xor (2 ins), 5 an Event (of 6 by the flow 7, and of 7 by the flow 8),
// 8 an Xor (2 ins), 9 to 12 Tasks and an Assign, 13 an Xor (3 outs), 14 an Xor (3 ins); and 20 flows.
func gates() api.Net {
	return sample.Of("snnxxvmcxtttaxxe", "0-1 1-2 1-2 2-3 3-4 3-4 4-5 5-6 5-7 6-8 7-8 8-9 9-10 10-11 11-12 12-13 13-14 13-14 13-14 14-15")
}

// 11.2: one fold of webs.
func TestStep(t *testing.T) {
	n := gates()
	for _, c := range []struct {
		web  string
		kind int
		want string
	}{
		// In a row.
		{"(web 9 10 [-1 0 0] [0 1 1] [1 -1 2])", 1, "(web (seq 9 10) [-1 0 0] [0 -1 2])"},
		{"(web 10 9 [-1 1 0] [1 0 1] [0 -1 2])", 1, "(web (seq 9 10) [-1 0 0] [0 -1 2])"},
		{"(web 10 9 [0 -1 2] [1 0 1] [-1 1 0])", 1, "(web (seq 9 10) [0 -1 2] [-1 0 0])"},
		{"(web 11 9 10 [-1 1 0] [1 2 1] [2 0 2] [0 -1 3])", 1, "(web 11 (seq 9 10) [-1 1 0] [1 0 2] [0 -1 3])"},
		{"(web 10 11 9 [-1 2 0] [2 0 1] [0 1 2] [1 -1 3])", 1, "(web (seq 10 11) 9 [-1 1 0] [1 0 1] [0 -1 3])"},
		{"(web (seq 9 10) (seq 11 12) [-1 0 0] [0 1 1] [1 -1 2])", 1, "(web (seq 9 10 11 12) [-1 0 0] [0 -1 2])"},
		{"(web 9 (seq 10 11) [-1 0 0] [0 1 1] [1 -1 2])", 1, "(web (seq 9 10 11) [-1 0 0] [0 -1 2])"},
		{"(web (seq 9 -) (seq - 10) [-1 0 0] [0 1 1] [1 -1 2])", 1, "(web (seq 9 - - 10) [-1 0 0] [0 -1 2])"},
		{"(web (alt:3 (seq 9 10) -) (par:1 - -) [-1 0 0] [0 1 1] [1 -1 2])", 1, "(web (seq (alt:3 (seq 9 10) -) (par:1 - -)) [-1 0 0] [0 -1 2])"},
		{"(web - 9 [-1 0 0] [0 1 1] [1 -1 2])", 1, "(web 9 [-1 0 0] [0 -1 2])"},
		{"(web 9 - [-1 0 0] [0 1 1] [1 -1 2])", 1, "(web 9 [-1 0 0] [0 -1 2])"},
		{"(web - (seq 9 10) [-1 0 0] [0 1 1] [1 -1 2])", 1, "(web (seq 9 10) [-1 0 0] [0 -1 2])"},
		{"(web (seq 9 10) - [-1 0 0] [0 1 1] [1 -1 2])", 1, "(web (seq 9 10) [-1 0 0] [0 -1 2])"},
		{"(web - - [-1 0 0] [0 1 1] [1 -1 2])", 1, "(web (seq - -) [-1 0 0] [0 -1 2])"},
		{"(web 9 9 [-1 0 0] [0 1 1] [1 -1 2])", 1, "(web (seq 9 9) [-1 0 0] [0 -1 2])"},
		{"(web 9 10 11 [-1 0 0] [0 -1 0] [1 2 1] [2 1 2])", 1, "(web 9 (seq 10 11) [-1 0 0] [0 -1 0] [1 1 2])"},
		// Closed.
		{"(web g1 g2 [-1 0 0] [0 1 1] [0 1 2] [1 -1 3])", 2, "(web (par:1 - -) [-1 0 0] [0 -1 3])"},
		{"(web g2 9 g1 [0 -1 3] [2 1 2] [2 0 1] [1 0 9] [-1 2 0])", 2, "(web (par:1 9 -) [0 -1 3] [-1 0 0])"},
		{"(web g3 (seq 9 10) g8 11 [-1 0 0] [0 1 4] [0 3 5] [1 2 9] [3 2 9] [2 -1 3])", 2, "(web (alt:3 (seq 9 10) 11) [-1 0 0] [0 -1 3])"},
		{"(web g13 g14 [-1 0 0] [0 1 4] [0 1 5] [0 1 6] [1 -1 3])", 2, "(web (alt:13 - - -) [-1 0 0] [0 -1 3])"},
		{"(web 9 g3 - g4 10 [-1 0 0] [0 1 1] [1 2 4] [1 3 5] [2 3 9] [3 4 3] [4 -1 7])", 2, "(web 9 (alt:3 - -) 10 [-1 0 0] [0 1 1] [1 2 3] [2 -1 7])"},
		{"(web g4 g3 g2 g1 [-1 3 0] [3 2 1] [3 2 1] [2 1 2] [1 0 3] [1 0 4] [0 -1 5])", 2, "(web (alt:3 - -) g2 g1 [-1 2 0] [2 1 1] [2 1 1] [1 0 2] [0 -1 5])"},
		{"(web g1 g8 [-1 0 0] [0 1 1] [0 1 2] [1 -1 3])", 0, ""},
		{"(web g3 g2 [-1 0 0] [0 1 1] [0 1 2] [1 -1 3])", 0, ""},
		{"(web g5 6 7 g2 [-1 0 6] [0 1 7] [0 2 8] [1 3 9] [2 3 10] [3 -1 11])", 0, ""},
		{"(web g3 g14 g13 [-1 0 0] [0 1 4] [0 1 5] [1 2 6] [2 1 7] [2 -1 8] [2 -1 9])", -1, ""},
		{"(web g13 g4 g8 [-1 0 0] [0 1 1] [0 1 2] [0 2 3] [1 2 4] [2 -1 5])", 0, ""},
		{"(web g3 g14 [-1 0 0] [0 1 1] [0 1 2] [1 -1 4])", -1, ""},
		// Picks.
		{"(web g5 6 7 g8 [-1 0 6] [0 1 7] [0 2 8] [1 3 9] [2 3 10] [3 -1 11])", 2, "(web (pick:5 - -) [-1 0 6] [0 -1 11])"},
		{"(web g5 7 6 g8 [-1 0 6] [0 1 8] [0 2 7] [1 3 9] [2 3 10] [3 -1 11])", 2, "(web (pick:5 - -) [-1 0 6] [0 -1 11])"},
		{"(web g5 (seq 6 9) (seq 7 10 11) g8 [-1 0 6] [0 1 7] [0 2 8] [1 3 9] [2 3 10] [3 -1 11])", 2, "(web (pick:5 9 (seq 10 11)) [-1 0 6] [0 -1 11])"},
		{"(web g5 (seq 6 (alt:3 - 9)) (seq 7 -) g8 [-1 0 6] [0 2 8] [0 1 7] [1 3 9] [2 3 10] [3 -1 11])", 2, "(web (pick:5 - (alt:3 - 9)) [-1 0 6] [0 -1 11])"},
		{"(web g5 6 7 g8 [-1 0 6] [0 1 8] [0 2 7] [1 3 9] [2 3 10] [3 -1 11])", 0, ""},
		{"(web g5 6 (seq 9 7) g8 [-1 0 6] [0 1 7] [0 2 8] [1 3 9] [2 3 10] [3 -1 11])", 0, ""},
		{"(web g5 6 g8 [-1 0 6] [0 1 7] [0 2 8] [1 2 9] [2 -1 11])", 0, ""},
		{"(web g5 6 9 g8 [-1 0 6] [0 1 7] [0 2 11] [1 3 9] [2 3 10] [3 -1 11])", 0, ""},
		{"(web g5 6 (pick:5 - -) g8 [-1 0 6] [0 1 7] [0 2 8] [1 3 9] [2 3 10] [3 -1 11])", 0, ""},
		{"(web g5 6 g8 g3 g4 [-1 0 6] [0 1 7] [0 2 8] [1 2 9] [2 3 11] [3 4 12] [3 4 13] [4 -1 14])", 2, "(web g5 6 g8 (alt:3 - -) [-1 0 6] [0 1 7] [0 2 8] [1 2 9] [2 3 11] [3 -1 14])"},
		// Going round.
		{"(web g4 g3 [-1 0 0] [0 1 1] [1 0 4] [1 -1 5])", 3, "(web (loop:3/1 - -) [-1 0 0] [0 -1 5])"},
		{"(web g3 g8 [0 -1 5] [0 1 4] [1 0 1] [-1 1 0])", 3, "(web (loop:3/0 - -) [0 -1 5] [-1 0 0])"},
		{"(web 9 g3 (seq 10 11) g4 12 [-1 4 0] [4 3 1] [3 0 2] [0 1 3] [1 2 4] [2 3 5] [1 -1 6])", 3, "(web (loop:3/1 9 (seq 10 11)) 12 [-1 1 0] [1 0 1] [0 -1 6])"},
		{"(web g4 g3 9 [-1 0 0] [0 1 1] [1 0 4] [1 2 5] [2 -1 6])", 3, "(web (loop:3/1 - -) 9 [-1 0 0] [0 1 5] [1 -1 6])"},
		{"(web g4 g3 - - [-1 0 0] [0 2 1] [2 1 2] [1 3 4] [3 0 5] [1 -1 5])", 3, "(web (loop:3/1 - -) [-1 0 0] [0 -1 5])"},
		{"(web g8 g13 g4 [-1 0 0] [0 1 1] [1 0 2] [1 2 3] [1 2 4] [2 -1 5])", 0, ""},
		{"(web g14 g13 [-1 0 0] [0 1 1] [1 0 2] [1 0 3] [1 -1 4])", 0, ""},
		{"(web g2 g3 [-1 0 0] [0 1 1] [1 0 4] [1 -1 5])", 0, ""},
		{"(web g4 g1 [-1 0 0] [0 1 1] [1 0 4] [1 -1 5])", 0, ""},
		{"(web 9 g4 g3 [-1 0 0] [0 -1 0] [1 2 1] [2 1 4] [2 1 5])", 2, "(web 9 (alt:3 - -) [-1 0 0] [0 -1 0] [1 1 1])"},
		// Which one comes first.
		{"(web g4 g3 g1 g2 9 10 [-1 0 0] [0 1 1] [1 0 4] [1 2 5] [2 3 6] [2 3 7] [3 4 8] [4 5 9] [5 -1 10])", 1, "(web g4 g3 g1 g2 (seq 9 10) [-1 0 0] [0 1 1] [1 0 4] [1 2 5] [2 3 6] [2 3 7] [3 4 8] [4 -1 10])"},
		{"(web g4 g3 g1 g2 [-1 0 0] [0 1 1] [1 0 4] [1 2 5] [2 3 6] [2 3 7] [3 -1 10])", 2, "(web g4 g3 (par:1 - -) [-1 0 0] [0 1 1] [1 0 4] [1 2 5] [2 -1 10])"},
		{"(web g8 g3 g4 g3 [-1 2 0] [2 3 1] [3 2 4] [3 0 5] [0 1 6] [1 0 7] [1 -1 8])", 3, "(web (loop:3/1 - -) g4 g3 [-1 1 0] [1 2 1] [2 1 4] [2 0 5] [0 -1 8])"},
		{"(web 9 [-1 0 0] [0 -1 1])", 0, ""},
	} {
		web := sample.Block(c.web)
		b, kind, e := fold.Step(n, web)
		if c.kind < 0 {
			if e != api.ErrArg {
				t.Errorf("%s: %v, %d, %v", c.web, b, kind, e)
			}
			continue
		}
		if c.kind == 0 {
			c.want = c.web
		}
		if kind != c.kind {
			t.Errorf("%s: kind %d; want %d", c.web, kind, c.kind)
		}
		wantText(t, c.web, b, e, c.want)
	}
}

func wantArg(t *testing.T, what string, n api.Net, web block.Block, want api.Errno) {
	t.Helper()
	if b, kind, e := fold.Step(n, web); e != want || kind != 0 || !reflect.DeepEqual(b, block.Block{}) {
		t.Errorf("%s: %v, %d, %v", what, b, kind, e)
	}
}

// 11.2: what is no web that can be folded, and no process.
func TestStepErrors(t *testing.T) {
	n := gates()
	for _, s := range []string{
		"-", "9", "g1", "*", "(seq 9 10)", "(alt:3 - -)", "(pick:5 - -)", "(loop:3/0 - -)",
		"(web)", "(web [-1 -1 0])", "(web 9)", "(web 9 [-1 0 0])", "(web 9 [0 -1 0])", "(web 1 [-1 0 0] [0 -1 0])", "(web g9 [-1 0 0] [0 -1 0])", "(web 99 [-1 0 0] [0 -1 0])",
		"(web * [-1 0 0] [0 -1 0])", "(web (web 9 [-1 0 0] [0 -1 0]) [-1 0 0] [0 -1 0])", "(web (seq 9) [-1 0 0] [0 -1 0])", "(web (alt:3 -) [-1 0 0] [0 -1 0])",
		"(web 9 [-1 0 20] [0 -1 0])", "(web 9 [-1 1 0] [0 -1 0])", "(web 9 [-1 0 0] [0 -1 -1])", "(web 9 [-1 0 0] [0 -1 0] [0 0 0])", "(web 9 [-1 0 0] [0 -1 0] [-1 -1 0])",
		// A block with no in, no out, two ins, two outs.
		"(web 9 10 [-1 0 0] [0 -1 0])", "(web 9 10 [-1 0 0] [0 -1 0] [0 1 0])", "(web 9 10 [-1 0 0] [0 -1 0] [1 0 0])", "(web 9 10 [-1 0 0] [0 1 1] [1 -1 0] [1 0 0])", "(web 9 10 [-1 0 0] [1 -1 0])",
		// A Gate with fewer, or more, than its node has.
		"(web g1 [-1 0 0] [0 -1 0])", "(web g2 [-1 0 0] [0 -1 0])", "(web g1 g14 [-1 0 0] [0 1 0] [0 1 0] [1 -1 0])", "(web g13 g2 [-1 0 0] [0 1 0] [0 1 0] [1 -1 0])",
		"(web g1 g2 [-1 0 0] [0 1 0] [0 1 0] [0 1 0] [1 -1 0])", "(web g1 g2 9 [-1 0 0] [0 1 0] [0 1 0] [1 -1 0] [1 2 0] [2 1 0])", "(web g2 g1 [-1 0 0] [0 1 0] [0 1 0] [1 -1 0])",
	} {
		wantArg(t, s, n, sample.Block(s), api.ErrArg)
		wantArg(t, s, api.Net{}, sample.Block(s), api.ErrForm)
	}
	wantArg(t, "no block", n, block.Block{}, api.ErrArg)
	for _, kind := range []int{-1, 0, 11, math.MinInt, math.MaxInt} {
		web := sample.Block("(web 9 [-1 0 0] [0 -1 0])")
		web.Kind = kind
		wantArg(t, "a wrong kind", n, web, api.ErrArg)
	}
	for _, change := range []func(web *block.Block){
		func(web *block.Block) { web.Node = 1 }, func(web *block.Block) { web.Arg = 1 }, func(web *block.Block) { web.Kids[0].Arg = 1 },
		func(web *block.Block) { web.Kids[0].Links = web.Links }, func(web *block.Block) { web.Kids[0].Kids = web.Kids },
		func(web *block.Block) { web.Links[0].From = math.MinInt }, func(web *block.Block) { web.Links[1].To = math.MaxInt },
	} {
		web := sample.Block("(web 9 [-1 0 0] [0 -1 0])")
		change(&web)
		wantArg(t, "a wrong web", n, web, api.ErrArg)
	}
	right := sample.Block("(web 9 [-1 0 0] [0 -1 0])")
	for _, m := range []api.Net{{}, {Nodes: n.Nodes}, {Nodes: n.Nodes, Flows: n.Flows[1:]}} {
		wantArg(t, "a wrong process", m, right, api.ErrForm)
	}
}

// nested is so many levels of an Alt.
func nested(levels int) string {
	return strings.Repeat("(alt:3 - ", levels-1) + "-" + strings.Repeat(")", levels-1)
}

// 11.2: webs at the limits of chapter 10, and beyond them; what is folded may lie beyond them, and cannot be folded again then.
func TestLimits(t *testing.T) {
	n := gates()
	web := func(deep string) block.Block {
		return sample.Block("(web g1 g2 " + deep + " [-1 0 0] [0 2 1] [0 1 2] [2 1 3] [1 -1 4])")
	}
	wantArg(t, "a web 25 levels deep", n, web(nested(24)), api.ErrArg)
	b, kind, e := fold.Step(n, web(nested(23)))
	want := block.Block{Kind: block.Web, Kids: []block.Block{{Kind: block.Par, Node: 1, Kids: []block.Block{sample.Block(nested(23)), {Kind: block.Empty}}}}, Links: []block.Link{{From: -1}, {To: -1, Flow: 4}}}
	if kind != 2 || e != api.OK || !block.Same(b, want) {
		t.Errorf("%v, %d, %v", b, kind, e)
	}
	wantArg(t, "what lies too deep now", n, b, api.ErrArg)
	row := func(blocks int) string { return "(seq" + strings.Repeat(" -", blocks-1) + ")" }
	wantArg(t, "97 blocks", n, web(row(94)), api.ErrArg)
	if b, kind, e := fold.Step(n, web(row(93))); kind != 2 || e != api.OK || block.Size(b) != 96 {
		t.Errorf("%v, %d, %v", b, kind, e)
	}
	l := make([]block.Block, 1)
	l[0] = block.Block{Kind: block.Seq, Kids: l}
	wantArg(t, "what lies in itself", n, block.Block{Kind: block.Web, Kids: l, Links: []block.Link{{From: -1}, {To: -1}}}, api.ErrArg)
	empties := "(web" + strings.Repeat(" -", 39)
	links := " [-1 0 0]"
	for i := range 38 {
		links += " [" + strconv.Itoa(i) + " " + strconv.Itoa(i+1) + " 1]"
	}
	full := sample.Block(empties + links + " [38 -1 2])")
	for left := 38; left > 0; left-- {
		if full, kind, e = fold.Step(n, full); kind != 1 || e != api.OK || len(full.Kids) != left {
			t.Fatalf("%d: %v, %d, %v", left, full, kind, e)
		}
	}
}

// lists tells where the lists of a block, and of all in it, lie, with their spare room.
func lists(b block.Block) [][2]uintptr {
	l := [][2]uintptr{span(b.Kids), span(b.Links)}
	for _, k := range b.Kids {
		l = append(l, lists(k)...)
	}
	return slices.DeleteFunc(l, func(x [2]uintptr) bool { return x[0] == x[1] })
}

func span[T any](l []T) [2]uintptr {
	if cap(l) == 0 {
		return [2]uintptr{}
	}
	l = l[:cap(l)]
	first := uintptr(unsafe.Pointer(&l[0]))
	return [2]uintptr{first, first + uintptr(len(l))*unsafe.Sizeof(l[0])}
}

// apart tells whether no two of these overlap.
func apart(l [][2]uintptr) bool {
	l = slices.SortedFunc(slices.Values(l), func(a, b [2]uintptr) int { return cmp.Compare(a[0], b[0]) })
	for i := 1; i < len(l); i++ {
		if l[i][0] < l[i-1][1] {
			return false
		}
	}
	return true
}

// spared is the block with spare room in all its lists.
func spared(b block.Block) block.Block {
	b.Kids = append(make([]block.Block, 0, len(b.Kids)+3), b.Kids...)
	b.Links = append(make([]block.Link, 0, len(b.Links)+3), b.Links...)
	for i := range b.Kids {
		b.Kids[i] = spared(b.Kids[i])
	}
	return b
}

// R3: what is handed in is left as it is; an answer is new memory, and no two lists of it share any.
func TestMemory(t *testing.T) {
	r := rand.New(rand.NewSource(14))
	for range 1500 {
		n := process(r)
		was := net.Copy(n)
		web := spared(sample.Web(n, r.Intn))
		same, places := copied(web), lists(web)
		b, _, e := fold.Step(n, web)
		if e != api.OK || !reflect.DeepEqual(web, same) || !reflect.DeepEqual(lists(web), places) || !reflect.DeepEqual(n, was) {
			t.Fatalf("%v: %v, or something was changed", same, e)
		}
		for _, k := range web.Kids[len(web.Kids):cap(web.Kids)] {
			if !reflect.DeepEqual(k, block.Block{}) {
				t.Fatalf("spare room was changed: %v", k)
			}
		}
		for _, l := range web.Links[len(web.Links):cap(web.Links)] {
			if l != (block.Link{}) {
				t.Fatalf("spare room was changed: %v", l)
			}
		}
		if !apart(append(lists(b), places...)) {
			t.Fatalf("%v shares something with %v, or in itself", b, web)
		}
		whole, _ := fold.Fold(n)
		first, _ := fold.Begin(n)
		if !apart(slices.Concat(lists(whole), lists(first))) {
			t.Fatalf("%v shares something", n)
		}
		again, _ := fold.Fold(n)
		if !block.Same(whole, again) || !apart(slices.Concat(lists(whole), lists(again))) {
			t.Fatalf("%v: %v, then %v", n, whole, again)
		}
	}
}
