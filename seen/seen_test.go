package seen_test

import (
	"cmp"
	"slices"
	"strings"
	"testing"

	"treenail/api"
	"treenail/seen"
)

// edge is a move from a state, which is a letter, to another one.
type edge struct {
	from  byte
	label api.Label
	to    byte
}

func did(node int) api.Label { return api.Label{Kind: api.Did, Node: node} }

// letters is a game of letters; asked counts how often the moves of one were looked up.
func letters(asked *int, edges ...edge) seen.Game[byte] {
	of := func(s byte) []edge {
		var l []edge
		for _, x := range edges {
			if x.from == s {
				l = append(l, x)
			}
		}
		return l
	}
	return seen.Game[byte]{
		Labels: func(s byte) []api.Label {
			*asked++
			var l []api.Label
			for _, x := range of(s) {
				l = append(l, x.label)
			}
			return l
		},
		Do: func(s byte, i int) byte { return of(s)[i].to },
	}
}

var silent api.Label

func game(asked *int) seen.Game[byte] {
	return letters(asked,
		edge{'a', silent, 'd'}, edge{'a', did(1), 'b'}, edge{'a', silent, 'c'}, edge{'a', did(1), 'f'},
		edge{'b', silent, 'a'}, edge{'b', did(3), 'b'}, edge{'c', silent, 'e'}, edge{'c', did(2), 'c'},
		edge{'d', silent, 'f'}, edge{'d', silent, 'd'}, edge{'d', did(1), 'g'}, edge{'f', silent, 'a'}, edge{'g', did(2), 'g'})
}

func TestOnce(t *testing.T) {
	for l, want := range map[string]string{"": "", "a": "a", "aa": "a", "cabcab": "cab", "abcba": "abc"} {
		if got := string(seen.Once([]byte(l))); got != want {
			t.Errorf("%s: %s", l, got)
		}
	}
}

// The first error is told, and each state is asked once, up to it.
func TestCheck(t *testing.T) {
	for l, want := range map[string]string{"": "", "aba": "ab", "abcad": "abc", "cab": "c", "aadac": "ad", "ccd": "c"} {
		asked := ""
		err := seen.Check([]byte(l), func(s byte) api.Errno {
			asked += string(s)
			return map[byte]api.Errno{'c': api.ErrArg, 'd': api.ErrForm}[s]
		})
		wrong := api.OK
		switch {
		case strings.HasSuffix(want, "c"):
			wrong = api.ErrArg
		case strings.HasSuffix(want, "d"):
			wrong = api.ErrForm
		}
		if asked != want || err != wrong {
			t.Errorf("%s: %v, %s were asked", l, err, asked)
		}
	}
}

func TestClose(t *testing.T) {
	asked := 0
	for l, want := range map[string]string{"": "", "a": "adcfe", "c": "ce", "e": "e", "gfg": "gfadce", "ec": "ec", "b": "badcfe", "cc": "ce"} {
		asked = 0
		got, err := seen.Close(game(&asked), []byte(l), len(want))
		if string(got) != want || err != api.OK || asked != len(want) {
			t.Errorf("%s: %s, %v, %d times", l, got, err, asked)
		}
		if got, err := seen.Close(game(&asked), []byte(l), len(want)-1); got != nil || err != api.ErrFull {
			t.Errorf("%s: %s, %v", l, got, err)
		}
	}
}

func TestLabels(t *testing.T) {
	asked := 0
	for l, want := range map[string][]api.Label{"": nil, "e": nil, "a": {did(1)}, "ba": {did(1), did(3)}, "gcbda": {did(1), did(2), did(3)}} {
		if got := seen.Labels(game(&asked), []byte(l)); !slices.Equal(got, want) {
			t.Errorf("%s: %v", l, got)
		}
	}
}

func TestAfter(t *testing.T) {
	asked := 0
	for _, x := range []struct {
		l     string
		label api.Label
		want  string
	}{
		{"a", did(1), "bfadce"}, {"da", did(1), "gbfadce"}, {"adad", did(1), "bfgadce"}, {"b", did(3), "badcfe"},
		{"g", did(2), "g"}, {"gc", did(2), "gce"}, {"a", did(2), ""}, {"", did(1), ""}, {"e", did(1), ""},
	} {
		if got, err := seen.After(game(&asked), []byte(x.l), x.label, len(x.want)); string(got) != x.want || err != api.OK {
			t.Errorf("%s, %v: %s, %v", x.l, x.label, got, err)
		}
		if got, err := seen.After(game(&asked), []byte(x.l), x.label, len(x.want)-1); got != nil || err != api.ErrFull {
			t.Errorf("%s, %v: %s, %v", x.l, x.label, got, err)
		}
	}
}

func TestAccepts(t *testing.T) {
	asked := 0
	g := game(&asked)
	for i, x := range []struct {
		start byte
		l     []api.Label
		most  int
		want  int
		err   api.Errno
	}{
		{'a', nil, 5, 0, api.OK},
		{'a', nil, 4, 0, api.ErrFull},
		{'a', []api.Label{did(2)}, 5, 1, api.OK},
		{'a', []api.Label{did(1)}, 5, 0, api.ErrFull},
		{'a', []api.Label{did(1)}, 7, 1, api.OK},
		{'a', []api.Label{did(2), did(2), did(2), did(1), did(1)}, 5, 3, api.OK},
		{'a', []api.Label{did(1), did(3), did(1), did(2)}, 7, 4, api.OK},
		{'a', []api.Label{did(9), did(1)}, 5, 0, api.OK},
		{'a', []api.Label{{}, did(1)}, 5, 0, api.OK},
		{'a', []api.Label{did(2), {Node: 3}, did(1)}, 5, 1, api.OK},
	} {
		if got, err := seen.Accepts(g, x.start, x.l, x.most); got != x.want || err != x.err {
			t.Errorf("%d: %d, %v", i, got, err)
		}
	}
}

func TestCompare(t *testing.T) {
	rising := []api.Label{{Kind: -1, Node: 9, Arg: 9}, {}, {Arg: 1}, {Node: 1}, {Node: 1, Arg: -1 << 63}, {Node: 1, Arg: 7}, {Kind: 1, Node: -5, Arg: 3}, {Kind: 1, Node: 0, Arg: 3}}
	slices.SortFunc(rising, seen.Compare)
	for i, a := range rising {
		for j, b := range rising {
			if got := seen.Compare(a, b); cmp.Compare(got, 0) != cmp.Compare(i, j) {
				t.Errorf("%v, %v: %d", a, b, got)
			}
		}
	}
	want := []api.Label{{Kind: -1, Node: 9, Arg: 9}, {}, {Arg: 1}, {Node: 1, Arg: -1 << 63}, {Node: 1}, {Node: 1, Arg: 7}, {Kind: 1, Node: -5, Arg: 3}, {Kind: 1, Node: 0, Arg: 3}}
	if !slices.Equal(rising, want) {
		t.Errorf("%v", rising)
	}
}
