package nest

import "slices"

// Part gives things kids of their own in place of those that they share, and these likewise; kids is where a thing's kids are.
// Once it has made the most that it may, it leaves out the others. (No recursion: things may lie too deep for one.)
func Part[T any](shared []*T, kids func(*T) *[]T, most int) {
	for len(shared) > 0 {
		last := len(shared) - 1
		list := kids(shared[last])
		shared = shared[:last]
		most -= len(*list)
		if most < 0 {
			*list = nil
			continue
		}
		*list = slices.Clone(*list)
		for i := range *list {
			// A list without a thing may have spare room that it shares.
			if kid := &(*list)[i]; *kids(kid) != nil {
				shared = append(shared, kid)
			}
		}
	}
}
