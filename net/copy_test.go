package net

import (
	"testing"

	"treenail/api"
)

// size is how many terms there are, with those in them.
func size(terms []*api.Term) int {
	n := len(terms)
	for _, t := range terms {
		var kids []*api.Term
		for i := range t.Kids {
			kids = append(kids, &t.Kids[i])
		}
		n += size(kids)
	}
	return n
}

// P3: copying ends at its limit, even if kids lie in themselves; what was handed in stays.
func TestPartLimits(t *testing.T) {
	for _, kids := range []int{1, 2, 3} {
		l := make([]api.Term, kids)
		for i := range l {
			l[i] = api.Term{Op: api.OpAdd, Kids: l}
		}
		for _, most := range []int{0, 1, 2, 3, 50, 1 << 10} {
			t0, t1 := api.Term{Kids: l}, api.Term{Kids: []api.Term{{}}}
			part([]*api.Term{&t1, &t0}, most)
			if n := size([]*api.Term{&t0, &t1}) - 2; n > most || n < most-kids {
				t.Errorf("%d terms were made of %d kids; want at most %d", n, kids, most)
			}
			if len(l[0].Kids) != kids || &l[0].Kids[0] != &l[0] {
				t.Fatal("what was handed in was changed")
			}
		}
	}
}

// 5.2: as many terms as there may be are made whole; of one more, its list is left out.
func TestPartMost(t *testing.T) {
	for most, want := range map[int]int{3: 3, 2: 2, 1: 0} {
		x := api.Term{Kids: []api.Term{{Kids: []api.Term{{}}}, {}}}
		part([]*api.Term{&x}, most)
		if n := size([]*api.Term{&x}) - 1; n != want {
			t.Errorf("%d terms were made of 3; want %d of at most %d", n, want, most)
		}
	}
}
