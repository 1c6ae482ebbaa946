package net

import (
	"slices"

	"treenail/api"
)

// mostTerms is how many terms an answer has room for: none may take more than 2^31 - 1 bytes, and a term takes 40.
// Kids may lie in themselves, and a copy of them must end all the same.
const mostTerms = (1<<31 - 1) / 40

// part gives terms kids of their own in place of those that they share, and these likewise.
// Once it has made the most that it may, it leaves out the others. (No recursion: wrong terms may lie too deep for one.)
func part(shared []*api.Term, most int) {
	for len(shared) > 0 {
		last := len(shared) - 1
		t := shared[last]
		shared = shared[:last]
		most -= len(t.Kids)
		if most < 0 {
			t.Kids = nil
			continue
		}
		t.Kids = slices.Clone(t.Kids)
		for i := range t.Kids {
			// A list without a term may have spare room that it shares.
			if t.Kids[i].Kids != nil {
				shared = append(shared, &t.Kids[i])
			}
		}
	}
}
