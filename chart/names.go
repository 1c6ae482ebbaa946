package chart

import "treenail/api"

// Names of elements that are no node's.
const (
	process = "process"
	flow    = "flow"
)

// The place of each name is the kind's number; the first one, which is empty, is no kind's.
var kinds = [9]string{
	api.Start:  "start",
	api.End:    "end",
	api.Task:   "task",
	api.Assign: "assign",
	api.Xor:    "xor",
	api.And:    "and",
	api.Event:  "event",
	api.Catch:  "catch",
}

// kindOf is the kind of this name; 0, if there is none.
func kindOf(name string) int {
	for kind, k := range kinds {
		if k == name {
			return kind
		}
	}
	return 0
}
