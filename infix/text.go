package infix

import (
	"treenail/api"
	"treenail/term"
)

// write puts the text behind other bytes of a term that has one, in brackets, if its row is looser than may stand there.
func write(out []byte, t api.Term, atLeast int) []byte {
	o, kids := with(t)
	if o.row < atLeast {
		return append(write(append(out, '('), t, loosest), ')')
	}
	switch len(kids) {
	case 0:
		text, _ := term.Text(t)
		return append(out, text...)
	case 1:
		return writeAhead(out, o, kids[0])
	}
	return writeBetween(out, o, kids[0], kids[1])
}

// with is the operator with which a term is written, and what that takes; of a number or a variable, only the row.
func with(t api.Term) (operator, []api.Term) {
	for _, o := range operators {
		if kids, ok := o.taken(t); ok {
			return o, kids
		}
	}
	return operator{row: closest}, nil
}

func writeAhead(out []byte, o operator, kid api.Term) []byte {
	out = append(out, o.text...)
	if o.text == not {
		out = append(out, ' ')
	}
	return write(out, kid, least(o.row, 0))
}

func writeBetween(out []byte, o operator, left, right api.Term) []byte {
	out = write(out, left, least(o.row, 0))
	out = append(append(append(out, ' '), o.text...), ' ')
	return write(out, right, least(o.row, 1))
}
