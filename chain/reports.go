package chain

import (
	"treenail/api"
	"treenail/net"
)

// Parts of the way: of what a report tells.
const (
	ofDocument = 1 + iota
	ofProcess
	ofProgram
	ofPage
)

// Codes of elements, beside the errors.
const (
	noProcess = -1
	noKid     = -2
)

// reports are those of one part and one code, as many as there are places.
func reports(part, code int, places ...int) []Report {
	var l []Report
	for _, at := range places {
		l = append(l, Report{Part: part, Place: at, Code: code})
	}
	return l
}

// strange is the report of an element that is no process's, by what layer 6 says of it: 1, or 2 more than a kid's place.
func strange(why int) []Report {
	if why == 1 {
		return reports(ofDocument, noProcess, 0)
	}
	return reports(ofDocument, noKid, why-2)
}

// broken are the reports of a process that is not right.
func broken(n api.Net) []Report {
	rule := 0
	var places []int
	for _, b := range net.All(n) {
		rule = b.Rule
		places = append(places, b.At)
	}
	return reports(ofProcess, rule, places...)
}
