package tree_test

import (
	"reflect"
	"regexp"
	"strings"
	"testing"

	"treenail/api"
	"treenail/tree"
)

var inner = regexp.MustCompile("<c/>|<a>(x|K*)</a>|<b>(x|K*)</b>")

// right tells whether it is an element's text: its innermost elements are taken away until one is left.
func right(s string) bool {
	for {
		t := inner.ReplaceAllString(s, "K")
		if t == s {
			return s == "K"
		}
		s = t
	}
}

// closes tells whether it may still become an element's text, by at most so many close marks.
func closes(s string, most int) bool {
	return right(s) || most > 0 && (closes(s+"</a>", most-1) || closes(s+"</b>", most-1))
}

// each hands on all lists of at most so many pieces.
func each(list, pieces []string, most int, do func([]string)) {
	do(list)
	if most == 0 {
		return
	}
	for _, p := range pieces {
		each(append(list[:len(list):len(list)], p), pieces, most-1, do)
	}
}

// firstWrong is the place of the first piece at which it is clear that there is no element.
func firstWrong(list []string, clear map[string]int) int {
	s := ""
	for _, p := range list {
		if clear[s+p] == 0 {
			clear[s+p] = 1
			if closes(s+p, len(list)) {
				clear[s+p] = 2
			}
		}
		if clear[s+p] == 1 {
			return len(s)
		}
		s += p
	}
	return len(s)
}

// 2.2 and 2.4: all short lists of marks. What is parsed is written so that it is parsed as the same.
func TestParseAll(t *testing.T) {
	clear := map[string]int{}
	each(nil, []string{"<a>", "<b>", "</a>", "</b>", "x", "<c/>"}, 5, func(list []string) {
		s := strings.Join(list, "")
		if strings.Contains(s, "xx") {
			return
		}
		if !right(s) {
			wantParse(t, s, firstWrong(list, clear), api.ErrForm)
			return
		}
		x, at, e := tree.Parse(s)
		w, err := tree.Write(x)
		if e != api.OK || at != 0 || err != api.OK || tree.Count(x) != strings.Count(s, "<")-strings.Count(s, "</") {
			t.Errorf("Parse(%q): %v, %d, %v, written %q, %v", s, x, at, e, w, err)
		}
		if again, _, _ := tree.Parse(w); !reflect.DeepEqual(again, x) {
			t.Errorf("Parse(%q): %v; want %v", w, again, x)
		}
	})
}
