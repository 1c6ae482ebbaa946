package page

import (
	"strconv"

	"treenail/bpel"
)

// link is the name of an element that is no activity's.
const link = "link"

// The place of each name is the kind's number; the first one, which is empty, is no kind's.
var kinds = [15]string{
	bpel.Empty:    "empty",
	bpel.Invoke:   "invoke",
	bpel.Assign:   "assign",
	bpel.Receive:  "receive",
	bpel.Wait:     "wait",
	bpel.Sequence: "sequence",
	bpel.Flow:     "flow",
	bpel.If:       "if",
	bpel.Pick:     "pick",
	bpel.On:       "on",
	bpel.Loop:     "loop",
	bpel.Gate:     "gate",
	bpel.Web:      "web",
	bpel.Rules:    "rules",
}

// kindOf is the kind of this name; 0, if there is none.
func kindOf(name string) int {
	for kind, k := range kinds {
		if k == name {
			return kind
		}
	}
	return 0
}

// condName is the name of the attribute of the cond at a place.
func condName(place int) string { return "c" + strconv.Itoa(place) }
