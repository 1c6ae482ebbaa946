// Package nest goes through things that lie in one another, whatever they are. Lists of kids may lie in themselves: a walk ends all the same.
package nest

import "slices"

// How far a walk goes through things that may be of any size.
const (
	MostLevels = 1000
	MostThings = 1<<31 - 1
)

// Way is a way through things: what a thing's kids are, down to how many levels it goes, and to how many things.
type Way[T any] struct {
	Kids           func(T) []T
	Levels, Things int
}

// Through shows a thing, then all in it, each ahead of its kids, till it is told false. It tells whether it came through all of them.
func Through[T any](w Way[T], x T, to func(T) bool) bool {
	return w.through(x, w.Levels, to)
}

// Same tells whether two things, and all in them, are alike by themselves; false too, if it had to give up.
func Same[T any](w Way[T], a, b T, alike func(a, b T) bool) bool {
	return w.same(a, b, w.Levels, alike)
}

// Once shows a thing and all in it, in any order and however deep they lie, till it is told false; a thing of a list that lies in several others, or in itself,
// is shown once. It tells whether it came through all of them. (No recursion: things may lie too deep for one.)
func Once[T any](x T, kids func(T) []T, to func(T) bool) bool {
	shown := map[*T]struct{}{}
	lists := [][]T{{x}}
	for len(lists) > 0 {
		last := len(lists) - 1
		list := lists[last]
		lists = lists[:last]
		for i := range list {
			thing := &list[i]
			if _, ok := shown[thing]; ok {
				continue
			}
			shown[thing] = struct{}{}
			if !to(*thing) {
				return false
			}
			lists = append(lists, kids(*thing))
		}
	}
	return true
}

// enter tells whether there is room for a thing that has so many levels left.
func (w *Way[T]) enter(levels int) bool {
	if levels <= 0 || w.Things <= 0 {
		return false
	}
	w.Things--
	return true
}

func (w *Way[T]) through(x T, levels int, to func(T) bool) bool {
	if !w.enter(levels) || !to(x) {
		return false
	}
	for _, k := range w.Kids(x) {
		if !w.through(k, levels-1, to) {
			return false
		}
	}
	return true
}

func (w *Way[T]) same(a, b T, levels int, alike func(a, b T) bool) bool {
	if !w.enter(levels) || !alike(a, b) {
		return false
	}
	return slices.EqualFunc(w.Kids(a), w.Kids(b), func(a, b T) bool { return w.same(a, b, levels-1, alike) })
}
