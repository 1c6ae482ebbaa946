package nest_test

import (
	"testing"

	"treenail/nest"
)

func part(most int, shared ...*thing) {
	nest.Part(shared, func(x *thing) *[]thing { return &x.kids }, most)
}

// size is how many things there are, with those in them.
func size(things []thing) int {
	n := len(things)
	for _, x := range things {
		n += size(x.kids)
	}
	return n
}

// Parting ends at its limit, even if kids lie in themselves; what was handed in stays.
func TestPartLimits(t *testing.T) {
	for _, kids := range []int{1, 2, 3} {
		l := make([]thing, kids)
		for i := range l {
			l[i] = thing{name: 1, kids: l}
		}
		for _, most := range []int{0, 1, 2, 3, 50, 1 << 10} {
			a, b := thing{kids: l}, thing{kids: []thing{{}}}
			part(most, &b, &a)
			if n := size(a.kids) + size(b.kids); n > most || n < most-kids {
				t.Errorf("%d things were made of %d kids; want at most %d", n, kids, most)
			}
			if len(l[0].kids) != kids || &l[0].kids[0] != &l[0] {
				t.Fatal("what was handed in was changed")
			}
		}
	}
}

// As many things as there may be are made whole; of one more, its list is left out.
func TestPartMost(t *testing.T) {
	for most, want := range map[int]int{3: 3, 2: 2, 1: 0, 0: 0, -1: 0} {
		x := thing{kids: []thing{{kids: []thing{{}}}, {}}}
		part(most, &x)
		if n := size(x.kids); n != want {
			t.Errorf("%d things were made of 3; want %d of at most %d", n, want, most)
		}
	}
}

// No list is shared any more, at whatever level, spare room too; what is in them is the same.
func TestPart(t *testing.T) {
	room := make([]thing, 2)
	was := thing{1, []thing{{2, []thing{{3, nil}, {4, room[:0]}}}, {5, nil}}}
	x, y := was, was
	part(99, &x, &y)
	if !nest.Same(way(9, 99), x, was, equal) || !nest.Same(way(9, 99), y, was, equal) {
		t.Errorf("%v and %v are not %v", x, y, was)
	}
	x.kids[0].name, x.kids[0].kids[0].name = 7, 7
	_ = append(x.kids[0].kids[1].kids, thing{name: 7})
	if !nest.Same(way(9, 99), y, was, equal) || was.kids[0].name != 2 || was.kids[0].kids[0].name != 3 || room[0].name != 0 {
		t.Errorf("%v and %v share with what was changed", y, was)
	}
	part(99)
}

// Things may lie deeper than a walk goes.
func TestPartDeep(t *testing.T) {
	const levels = 1000000
	was := thing{}
	for range levels {
		was = thing{kids: []thing{was}}
	}
	x := was
	part(levels, &x)
	n := 0
	for at := x; len(at.kids) > 0; at = at.kids[0] {
		n++
	}
	if n != levels || &x.kids[0] == &was.kids[0] {
		t.Errorf("%d levels", n)
	}
}
