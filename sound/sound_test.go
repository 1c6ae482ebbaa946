package sound_test

import (
	"strings"
	"testing"

	"treenail/api"
	"treenail/block"
	"treenail/fold"
	"treenail/sample"
	"treenail/sound"
)

func want(t *testing.T, what string, n api.Net, web block.Block, wrong, looked int, e api.Errno) {
	t.Helper()
	if w, l, f := sound.Play(n, web); w != wrong || l != looked || f != e {
		t.Errorf("Play of %s: %d, %d, %v; want %d, %d, %v", what, w, l, f, wrong, looked, e)
	}
	if got := sound.Sound(n, web); got != (wrong == 0 && e == api.OK) {
		t.Errorf("Sound of %s: %v", what, got)
	}
}

// 12.1: the webs with which processes begin.
func TestProcesses(t *testing.T) {
	for _, c := range []struct {
		nodes, flows  string
		wrong, looked int
	}{
		{"ste", "0-1 1-2", 0, 2},
		{"satce", "0-1 1-2 2-3 3-4", 0, 4},
		{"sntne", "0-1 1-2 1-3 2-3 3-4", 0, 4},
		{"snttne", "0-1 1-2 1-3 2-4 3-4 4-5", 0, 6},
		{"sxttxe", "0-1 1-2 1-3 2-4 3-4 4-5", 0, 6},
		{"svmcxe", "0-1 1-2 1-3 2-4 3-4 4-5", 0, 6},
		{"sxtxte", "0-1 1-2 2-3 3-4 4-1 3-5", 0, 6},
		{"snnttnne", "0-1 1-2 1-5 2-3 2-6 3-5 5-4 4-6 6-7", 0, 7},
		// Too many: a second token comes to where one is; that more is left is told only behind it.
		{"snxte", "0-1 1-2 1-2 2-3 3-4", 1, 2},
		{"snxe", "0-1 1-2 1-2 2-3", 1, 2},
		{"sxnte", "0-1 1-2 2-1 2-3 3-4", 1, 3},
		// Left: the example, and one in which what is left could go on.
		{"sntxe", "0-1 1-2 1-3 2-3 3-4", 2, 3},
		{"snttxe", "0-1 1-2 2-3 3-4 1-4 4-5", 2, 3},
		// Stuck: at once, or behind one that comes to its end.
		{"sxtne", "0-1 1-2 1-3 2-3 3-4", 3, 2},
		{"svmcne", "0-1 1-2 1-3 2-4 3-4 4-5", 3, 3},
		{"sxtnxet", "0-1 1-4 1-2 2-3 1-6 6-3 3-4 4-5", 3, 5},
	} {
		n := sample.Of(c.nodes, c.flows)
		web, e := fold.Begin(n)
		if e != api.OK {
			t.Errorf("%s %s: %v", c.nodes, c.flows, e)
			continue
		}
		want(t, c.nodes+" "+c.flows, n, web, c.wrong, c.looked, api.OK)
	}
}

// 12.1: other webs: of blocks, with links in another order, with what nothing leads to. The process is: 1 And (2 outs), 2 And (joins), 3 Xor (2 outs),
// 4 Xor (joins), 5 Event (of 6 and 7), 8 Xor (joins), 9 and 10 Tasks.
func TestWebs(t *testing.T) {
	n := sample.Of("snnxxvmcxtte", "0-1 1-2 1-2 2-3 3-4 3-4 4-5 5-6 5-7 6-8 7-8 8-9 9-10 10-11")
	for _, c := range []struct {
		web           string
		wrong, looked int
	}{
		{"(web (par:1 9 -) [-1 0 0] [0 -1 0])", 0, 2},
		{"(web (loop:3/1 - 9) (pick:5 - -) - [1 2 0] [2 -1 0] [0 1 0] [-1 0 0])", 0, 4},
		{"(web 9 10 - [-1 0 0] [0 -1 0] [1 2 1] [2 1 2])", 0, 2},
		{"(web g1 9 g4 [-1 0 0] [0 1 1] [0 2 2] [1 2 3] [2 -1 4])", 2, 3},
		// The choice that is looked at first is the one whose link comes first.
		{"(web g3 9 g2 [-1 0 0] [0 1 4] [0 2 5] [1 2 3] [2 -1 4])", 3, 2},
		{"(web g3 9 g2 [-1 0 0] [0 2 5] [0 1 4] [1 2 3] [2 -1 4])", 3, 1},
		{"(web 9 g2 g3 [-1 2 0] [2 0 4] [2 1 5] [0 1 3] [1 -1 4])", 3, 2},
		// So does the token that is taken first, and the kid that comes first.
		{"(web g1 g4 9 [-1 0 0] [0 1 1] [0 2 2] [2 1 3] [1 -1 4])", 2, 2},
		{"(web g1 9 g4 - [-1 0 0] [0 3 1] [0 1 2] [3 2 1] [1 2 3] [2 -1 4])", 2, 4},
		// An Event's Gate chooses, whatever it leads to.
		{"(web g5 6 7 g8 [-1 0 0] [0 1 7] [0 2 8] [1 3 9] [2 3 10] [3 -1 11])", 0, 6},
		{"(web g5 g8 [-1 0 0] [0 1 7] [0 1 8] [1 -1 11])", 0, 4},
		{"(web g5 g2 [-1 0 0] [0 1 7] [0 1 8] [1 -1 11])", 3, 1},
		// A joint that a token comes round to, and waits at.
		{"(web g2 g3 [-1 0 0] [0 1 1] [1 0 4] [1 -1 5])", 3, 0},
		{"(web g4 g1 [-1 0 0] [0 1 1] [1 0 4] [1 -1 5])", 2, 2},
		{"(web g4 g1 9 [-1 0 0] [0 1 1] [1 0 4] [1 2 5] [2 -1 6])", 1, 3},
	} {
		want(t, c.web, n, sample.Block(c.web), c.wrong, c.looked, api.OK)
	}
}

// 12.1: what fold.Step does not take.
func TestErrors(t *testing.T) {
	n := sample.Of("sntne", "0-1 1-2 1-3 2-3 3-4")
	for _, s := range []string{
		"-", "2", "g1", "*", "(par:1 - -)", "(web)", "(web [-1 -1 0])", "(web 2)", "(web 2 [-1 0 0])", "(web 2 [-1 0 9] [0 -1 0])", "(web g1 [-1 0 0] [0 -1 0])", "(web 0 [-1 0 0] [0 -1 0])",
		"(web 2 - [-1 0 0] [0 -1 0])", "(web 2 [-1 0 0] [0 -1 0] [0 0 0])", "(web g1 2 g3 [-1 0 0] [0 1 1] [0 2 2] [1 2 3])", "(web (seq" + strings.Repeat(" -", 95) + ") [-1 0 0] [0 -1 0])",
	} {
		want(t, s, n, sample.Block(s), 0, 0, api.ErrArg)
		want(t, s, api.Net{}, sample.Block(s), 0, 0, api.ErrForm)
	}
	want(t, "no block", n, block.Block{}, 0, 0, api.ErrArg)
	want(t, "a node twice", n, sample.Block("(web 2 2 [-1 0 0] [0 1 1] [1 -1 2])"), 0, 3, api.OK)
	want(t, "a web", api.Net{Nodes: n.Nodes}, sample.Block("(web 2 [-1 0 0] [0 -1 0])"), 0, 0, api.ErrForm)
	alone := sample.Of("se", "0-1")
	web, _ := fold.Begin(alone)
	want(t, "a Start and an End alone", alone, web, 0, 0, api.ErrArg)
}

// longer is a process's first web with so many Empties more on each link, by their places.
func longer(n api.Net, empties ...int) block.Block {
	web, _ := fold.Begin(n)
	for at, more := range empties {
		for range more {
			web.Links = append(web.Links, web.Links[at])
			web.Links[at].To, web.Links[len(web.Links)-1].From = len(web.Kids), len(web.Kids)
			web.Kids = append(web.Kids, block.Block{Kind: block.Empty})
		}
	}
	return web
}

// 12.1: so many markings as may be, and one more: all right, or the last but one of them wrong.
func TestMost(t *testing.T) {
	if sound.Most != 1500 {
		t.Fatal(sound.Most)
	}
	// 1 + 2*3*3*3*3*3*3 + 1 + 3*13 + 1, and with 5*8 for 3*13.
	two := sample.Of("snnnne", "0-1"+strings.Repeat(" 1-2", 7)+" 2-3 3-4 3-4 4-5")
	want(t, "1500 markings", two, longer(two, 0, 1, 2, 2, 2, 2, 2, 2, 0, 2, 12), 0, 1500, api.OK)
	want(t, "1501 markings", two, longer(two, 0, 1, 2, 2, 2, 2, 2, 2, 0, 4, 7), 0, 0, api.ErrFull)
	// 1 + 2*2*2*11*17 + 1 + 2: the token stands at the one way from the choice to the And, or at the other.
	stuck := sample.Of("snnxne", "0-1"+strings.Repeat(" 1-2", 5)+" 2-3 3-4 3-4 4-5")
	want(t, "1500 markings, and stuck", stuck, longer(stuck, 0, 1, 1, 1, 10, 16), 3, 1498, api.OK)
	want(t, "1501 markings, and stuck", stuck, longer(stuck, 0, 1, 1, 1, 10, 16, 1), 0, 0, api.ErrFull)
	// The whole of a great web is not asked for, if something is wrong early.
	early := sample.Of("snxne", "0-1 1-2 1-2 2-3"+strings.Repeat(" 1-3", 5)+" 3-4")
	want(t, "something wrong early", early, longer(early, 0, 0, 0, 0, 5, 5, 5, 5, 5), 1, 2, api.OK)
}
