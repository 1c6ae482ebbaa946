package guard

import (
	"strconv"

	"treenail/api"
	"treenail/mark"
	"treenail/page"
	"treenail/tree"
)

// Names in a document.
const (
	guarded = "guarded"
	catch   = "catch"
	code    = "code"
)

// elem is the element of a program that is right.
func elem(p Program) tree.Elem {
	main, _ := page.Elem(p.Main)
	e := tree.Elem{Name: guarded, Kids: []tree.Elem{main}}
	for _, h := range p.Catch {
		e.Kids = append(e.Kids, catchElem(h))
	}
	return e
}

func catchElem(h Handler) tree.Elem {
	act, _ := page.Elem(h.Act)
	e := tree.Elem{Name: catch, Kids: []tree.Elem{act}}
	if h.Code != anyCode {
		e.Attrs = []mark.Attr{{Name: code, Value: strconv.Itoa(h.Code)}}
	}
	return e
}

// program is the program of an element, which is not checked as a whole: ErrForm, if the element is none's; else the error of one in it.
func program(e tree.Elem) (Program, api.Errno) {
	p, ok := frame(e)
	if !ok {
		return Program{}, api.ErrForm
	}
	main, err := page.Act(e.Kids[0])
	p.Main = main
	for i, k := range e.Kids[1:] {
		if err != api.OK {
			break
		}
		p.Catch[i].Act, err = page.Act(k.Kids[0])
	}
	return p, err
}

// frame is what an element tells of a program around those that are in it; false, if it is no program's.
func frame(e tree.Elem) (Program, bool) {
	if e.Name != guarded || len(e.Attrs) > 0 || e.Text != "" || len(e.Kids) == 0 {
		return Program{}, false
	}
	var p Program
	for _, k := range e.Kids[1:] {
		c, ok := codeOf(k)
		if !ok || k.Name != catch || len(k.Kids) != 1 {
			return Program{}, false
		}
		p.Catch = append(p.Catch, Handler{Code: c})
	}
	return p, true
}

// codeOf is the Code that a catch's element tells; false, if it tells none.
func codeOf(e tree.Elem) (int, bool) {
	if len(e.Attrs) == 0 {
		return anyCode, true
	}
	for _, c := range codes {
		if c != anyCode && len(e.Attrs) == 1 && e.Attrs[0] == (mark.Attr{Name: code, Value: strconv.Itoa(c)}) {
			return c, true
		}
	}
	return 0, false
}
