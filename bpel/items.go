package bpel

import (
	"slices"

	"treenail/api"
	"treenail/nest"
)

// How many activities and terms an answer has room for: none may take more than 2^31 - 1 bytes, and an activity takes 192, a term 40.
const (
	mostActs  = (1<<31 - 1) / 192
	mostTerms = (1<<31 - 1) / 40
)

// reserve takes off the room what an activity, so many levels deep, and all in it take in a list of items: it is in that of each around it, too.
// It is false, if there is not so much room, or they lie too deep.
func reserve(a Act, levels int, room *int) bool {
	*room -= levels
	if *room < 0 || levels > nest.MostLevels {
		return false
	}
	for _, k := range a.Kids {
		if !reserve(k, levels+1, room) {
			return false
		}
	}
	return true
}

// list lists an activity and all in it behind the items that are listed already.
func list(l []Item, parent, at int, a Act) []Item {
	place := len(l)
	l = append(l, Item{Parent: parent, At: at, Act: a})
	for i, k := range a.Kids {
		l = list(l, place, i, k)
	}
	return l
}

// part gives the items' activities lists of their own in place of those that they share.
func part(l []Item) {
	var shared []*api.Term
	for i := range l {
		shared = own(&l[i].Act, shared)
	}
	nest.Part(shared, func(t *api.Term) *[]api.Term { return &t.Kids }, mostTerms)
}

// own gives an activity, and all in it, lists of their own. Their terms, whose kids are shared still, are listed behind the others.
func own(a *Act, terms []*api.Term) []*api.Term {
	a.Conds, a.Kids, a.Links = slices.Clone(a.Conds), slices.Clone(a.Kids), slices.Clone(a.Links)
	a.Net = api.Net{Nodes: slices.Clone(a.Net.Nodes), Flows: slices.Clone(a.Net.Flows)}
	terms = append(terms, &a.Term)
	for i := range a.Conds {
		terms = append(terms, &a.Conds[i])
	}
	for i := range a.Net.Nodes {
		terms = append(terms, &a.Net.Nodes[i].Term)
	}
	for i := range a.Net.Flows {
		terms = append(terms, &a.Net.Flows[i].Cond)
	}
	for i := range a.Kids {
		terms = own(&a.Kids[i], terms)
	}
	return terms
}
