package term

import (
	"testing"

	"treenail/api"
)

// P3: a walk comes to so many terms, and to so many levels, and no further.
func TestWalk(t *testing.T) {
	kids := make([]api.Term, 2)
	for i := range kids {
		kids[i] = api.Term{Op: api.OpAdd, Kids: kids[:0]}
	}
	x := api.Term{Op: api.OpAdd, Kids: kids}
	for left := range 5 {
		for levels := range 4 {
			w := walk{left: left}
			n := 0
			whole := w.show(x, levels, func(api.Term) { n++ })
			if whole != (left >= 3 && levels >= 2) || n > left || whole && n != 3 {
				t.Errorf("show with %d left, %d levels: %d, %v", left, levels, n, whole)
			}
			w = walk{left: left}
			if same := w.same(x, x, levels); same != whole {
				t.Errorf("same with %d left, %d levels: %v", left, levels, same)
			}
		}
	}
}
