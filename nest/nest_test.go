package nest_test

import (
	"slices"
	"testing"

	"treenail/nest"
)

type thing struct {
	name int
	kids []thing
}

func way(levels, things int) nest.Way[thing] {
	return nest.Way[thing]{Kids: func(x thing) []thing { return x.kids }, Levels: levels, Things: things}
}

func some() thing { return thing{1, []thing{{2, []thing{{3, nil}, {4, []thing{}}}}, {5, nil}}} }

func equal(a, b thing) bool { return a.name == b.name }

// Each thing is shown ahead of its kids, these in their order, till it is enough.
func TestThrough(t *testing.T) {
	for last := range 7 {
		var l []int
		all := nest.Through(way(3, 5), some(), func(x thing) bool {
			l = append(l, x.name)
			return x.name != last
		})
		want := []int{1, 2, 3, 4, 5}
		if last > 0 && last < 6 {
			want = want[:last]
		}
		if !slices.Equal(l, want) || all != (last == 0 || last == 6) {
			t.Errorf("till %d: %v, %v", last, l, all)
		}
	}
}

// Two are the same only if all in them are alike, in the same order.
func TestSame(t *testing.T) {
	if !nest.Same(way(3, 5), some(), some(), equal) {
		t.Error("some are not the same")
	}
	for i, change := range []func(x *thing){
		func(x *thing) { x.name = 9 }, func(x *thing) { x.kids[1].name = 9 }, func(x *thing) { x.kids[0].kids[1].name = 9 },
		func(x *thing) { x.kids = x.kids[:1] }, func(x *thing) { x.kids[0].kids = nil }, func(x *thing) { x.kids[1].kids = make([]thing, 1) },
		func(x *thing) { x.kids[0], x.kids[1] = x.kids[1], x.kids[0] },
	} {
		x := some()
		change(&x)
		if nest.Same(way(9, 99), some(), x, equal) || nest.Same(way(9, 99), x, some(), equal) {
			t.Errorf("%d: they are the same", i)
		}
	}
}

// Each thing is shown once, wherever it lies, till it is enough.
func TestOnce(t *testing.T) {
	kids := func(x thing) []thing { return x.kids }
	names := func(x thing, till int) ([]int, bool) {
		var l []int
		all := nest.Once(x, kids, func(x thing) bool {
			l = append(l, x.name)
			return x.name != till
		})
		slices.Sort(l)
		return l, all
	}
	if l, all := names(some(), 0); !slices.Equal(l, []int{1, 2, 3, 4, 5}) || !all {
		t.Errorf("%v, %v", l, all)
	}
	for till := 1; till <= 5; till++ {
		if l, all := names(some(), till); !slices.Contains(l, till) || all {
			t.Errorf("till %d: %v, %v", till, l, all)
		}
	}
	round := []thing{{name: 1}, {name: 2}, {name: 3}}
	round[0].kids, round[1].kids = round, round[1:]
	if l, all := names(thing{4, round[:2]}, 0); !slices.Equal(l, []int{1, 2, 3, 4}) || !all {
		t.Errorf("what lies in itself: %v, %v", l, all)
	}
	var deep, twice thing
	for i := range 1000000 {
		deep = thing{i, []thing{deep}}
		if i < 70 {
			twice = thing{i, []thing{twice, twice}}
		}
	}
	if l, all := names(deep, -1); len(l) != 1000001 || !all {
		t.Errorf("deep: %d, %v", len(l), all)
	}
	if l, all := names(twice, -1); len(l) != 2*70+1 || !all {
		t.Errorf("twice the same: %d, %v", len(l), all)
	}
}

// A walk comes to so many things, and to so many levels, and no further.
func TestLimits(t *testing.T) {
	for things := range 7 {
		for levels := range 5 {
			n := 0
			all := nest.Through(way(levels, things), some(), func(thing) bool {
				n++
				return true
			})
			if all != (things >= 5 && levels >= 3) || n > things || all && n != 5 {
				t.Errorf("%d things, %d levels: %d, %v", things, levels, n, all)
			}
			if same := nest.Same(way(levels, things), some(), some(), equal); same != all {
				t.Errorf("%d things, %d levels: same: %v", things, levels, same)
			}
		}
	}
	for _, w := range []nest.Way[thing]{way(-1, 5), way(3, -1), way(-1<<63, -1<<63)} {
		if nest.Through(w, some(), func(thing) bool { return true }) || nest.Same(w, some(), some(), equal) {
			t.Errorf("%d things, %d levels: came through", w.Things, w.Levels)
		}
	}
}

// What lies in itself is gone through to the limits.
func TestLiesInItself(t *testing.T) {
	l := make([]thing, 2)
	l[0], l[1] = thing{1, l}, thing{1, l}
	n := 0
	count := func(thing) bool {
		n++
		return true
	}
	if nest.Through(way(nest.MostLevels, nest.MostThings), l[0], count) || n != nest.MostLevels {
		t.Errorf("%d were shown", n)
	}
	if nest.Same(way(nest.MostLevels, nest.MostThings), l[0], l[1], equal) {
		t.Error("it was gone through")
	}
	n = 0
	if nest.Through(way(40, 1000), l[0], count) || n != 40 {
		t.Errorf("%d were shown", n)
	}
	n = 0
	l[0].kids = nil
	if nest.Through(way(2000, 1000), l[1], count) || n != 1000 {
		t.Errorf("%d were shown", n)
	}
}
