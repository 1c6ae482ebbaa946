package net

import (
	"treenail/api"
	"treenail/nest"
)

// mostTerms is how many terms an answer has room for: none may take more than 2^31 - 1 bytes, and a term takes 40.
// Kids may lie in themselves, and a copy of them must end all the same.
const mostTerms = (1<<31 - 1) / 40

// part gives terms kids of their own in place of those that they share.
func part(shared []*api.Term) {
	nest.Part(shared, func(t *api.Term) *[]api.Term { return &t.Kids }, mostTerms)
}
