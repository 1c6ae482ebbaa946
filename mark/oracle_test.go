package mark_test

import (
	"regexp"
	"strings"
	"testing"

	"treenail/api"
	"treenail/mark"
)

const (
	nameForm  = "[a-z][a-z0-9-]{0,23}"
	escForm   = "&lt;|&gt;|&amp;|&quot;"
	valueForm = "(?:[\n -!#-%'-;=-~]|" + escForm + ")*"
	attrForm  = " (" + nameForm + ")=\"(" + valueForm + ")\""
)

var (
	shutExp = regexp.MustCompile("^</(" + nameForm + ")>")
	openExp = regexp.MustCompile("^<(" + nameForm + ")((?: " + nameForm + "=\"" + valueForm + "\")*)(/?)>")
	attrExp = regexp.MustCompile(attrForm)
	textExp = regexp.MustCompile("^(?:[\n -%'-;=-~]|" + escForm + ")+$")
	without = strings.NewReplacer("&lt;", "<", "&gt;", ">", "&amp;", "&", "&quot;", "\"")
)

// oneMark reads the marks at the beginning of s as the chapter's words have them, and tells how many bytes they are; 0, if there is none.
func oneMark(s string, at int) ([]mark.Mark, int) {
	if s[0] != '<' {
		part, _, _ := strings.Cut(s, "<")
		if !textExp.MatchString(part) {
			return nil, 0
		}
		return []mark.Mark{text(at, without.Replace(part))}, len(part)
	}
	if m := shutExp.FindStringSubmatch(s); m != nil {
		return []mark.Mark{shut(at, m[1])}, len(m[0])
	}
	m := openExp.FindStringSubmatch(s)
	if m == nil {
		return nil, 0
	}
	o := open(at, m[1])
	seen := map[string]bool{}
	for _, a := range attrExp.FindAllStringSubmatch(m[2], -1) {
		if seen[a[1]] {
			return nil, 0
		}
		seen[a[1]] = true
		o.Attrs = append(o.Attrs, mark.Attr{Name: a[1], Value: without.Replace(a[2])})
	}
	if len(seen) > api.MaxKids {
		return nil, 0
	}
	if m[3] == "" {
		return []mark.Mark{o}, len(m[0])
	}
	return []mark.Mark{o, shut(at, m[1])}, len(m[0])
}

func wantRead(s string) ([]mark.Mark, int, api.Errno) {
	var all []mark.Mark
	for at := 0; at < len(s); {
		l, n := oneMark(s[at:], at)
		if n == 0 {
			return nil, at, api.ErrForm
		}
		all, at = append(all, l...), at+n
	}
	return all, 0, api.OK
}

// each hands on all texts of at most so many pieces behind a beginning.
func each(begin string, pieces []string, most int, do func(string)) {
	do(begin)
	if most == 0 {
		return
	}
	for _, p := range pieces {
		each(begin+p, pieces, most-1, do)
	}
}

// 1.1: all short texts, read as regular expressions have them.
func TestReadAll(t *testing.T) {
	check := func(s string) {
		l, at, e := mark.Read(s)
		wl, wat, we := wantRead(s)
		if e != we || at != wat || !same(l, wl) {
			t.Errorf("Read(%q): %v, %d, %v; want %v, %d, %v", s, l, at, e, wl, wat, we)
		}
	}
	each("", []string{"<", ">", "/", "a", " ", "\"", "&lt;", "&", "\t"}, 5, check)
	each("<a", []string{" a", "=\"", "\"", "b", " b=\"\"", "/>", ">", "<", "&amp;"}, 5, check)
}
