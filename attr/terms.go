package attr

import (
	"slices"
	"strings"

	"treenail/api"
	"treenail/term"
)

// A term may be right and its text longer than MaxText. Layer 3 neither tells nor reads that text, but an attribute has it:
// so it is put together of its kids' texts here, and taken apart into them.

// termText is the text of a term that is right.
func termText(t api.Term) string {
	text, err := term.Text(t)
	if err == api.OK {
		return text
	}
	bare := api.Term{Op: t.Op, Kids: slices.Repeat([]api.Term{{Op: api.OpNum}}, len(t.Kids))}
	text, _ = term.Text(bare)
	head, _, _ := strings.Cut(text, " ")
	parts := []string{head}
	for _, k := range t.Kids {
		parts = append(parts, termText(k))
	}
	return strings.Join(parts, " ") + ")"
}

// termOf is the term of a text; false, if it is no term's.
func termOf(s string) (api.Term, bool) {
	t, ok := termWithin(s, api.MaxDepth)
	if !ok {
		return api.Term{}, false
	}
	// Of kids that were read apart none lies too deep by itself; all together they may.
	if _, err := term.Check(t); err == api.ErrLong {
		return api.Term{}, false
	}
	return t, true
}

// termWithin is the term of a text that it takes apart at most so many levels deep.
func termWithin(s string, levels int) (api.Term, bool) {
	if len(s) <= api.MaxText || levels == 0 {
		t, err := term.Parse(s)
		return t, err == api.OK
	}
	head, kids := apart(s)
	t, err := term.Parse(head + strings.Repeat(" 0", len(kids)) + ")")
	if err != api.OK {
		return api.Term{}, false
	}
	for i, k := range kids {
		kid, ok := termWithin(k, levels-1)
		if !ok {
			return api.Term{}, false
		}
		t.Kids[i] = kid
	}
	return t, true
}

// apart is what a term's text has ahead of its kids' texts, and these; nothing, if it does not end as one with kids does.
func apart(s string) (string, []string) {
	s, ok := strings.CutSuffix(s, ")")
	if !ok {
		return "", nil
	}
	var parts []string
	begin, open := 0, 0
	for i, c := range s {
		switch c {
		case '(':
			open++
		case ')':
			open--
		case ' ':
			if open == 1 {
				parts = append(parts, s[begin:i])
				begin = i + 1
			}
		}
	}
	parts = append(parts, s[begin:])
	return parts[0], parts[1:]
}
