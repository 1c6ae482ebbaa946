package term_test

import (
	"math/big"
	"math/rand"
	"reflect"
	"regexp"
	"strings"
	"testing"

	"treenail/api"
	"treenail/term"
)

var (
	words   = regexp.MustCompile(`[$0-9]+`)
	leaf    = regexp.MustCompile(`^(\$[0-3]|0|[1-9][0-9]*)$`)
	reduced = regexp.MustCompile(`\((?:neg|not) T\)|\((?:add|sub|mul|div|mod|eq|lt|le|and|or) T T\)`)
)

// isText is another reading of the words: leaves are written as T, then terms of such, till nothing changes.
func isText(s string) bool {
	if strings.ContainsAny(s, "TX") {
		return false
	}
	depth, most := 1, 1
	for _, c := range s {
		depth += strings.Count("(", string(c)) - strings.Count(")", string(c))
		most = max(most, depth)
	}
	s = words.ReplaceAllStringFunc(s, func(w string) string {
		n, ok := new(big.Int).SetString(strings.TrimPrefix(w, "$"), 10)
		if ok && leaf.MatchString(w) && n.Cmp(big.NewInt(1<<40)) <= 0 {
			return "T"
		}
		return "X"
	})
	for before := ""; before != s; {
		before, s = s, reduced.ReplaceAllString(s, "T")
	}
	return s == "T" && most <= api.MaxDepth
}

func holdParse(t *testing.T, s string) {
	t.Helper()
	x, e := term.Parse(s)
	if !isText(s) {
		if e != api.ErrForm || !reflect.DeepEqual(x, api.Term{}) {
			t.Errorf("Parse(%q): %v, %v; want ErrForm", s, x, e)
		}
		return
	}
	if e != api.OK {
		t.Errorf("Parse(%q): %v", s, e)
		return
	}
	if g, e := term.Text(x); g != s || e != api.OK {
		t.Errorf("Text of what %q is: %q, %v", s, g, e)
	}
	if n := term.Size(x); n != len(words.FindAllString(s, -1))+strings.Count(s, "(") {
		t.Errorf("Size of what %q is: %d", s, n)
	}
}

// 3.1: all short texts of some bytes.
func TestShortTexts(t *testing.T) {
	const bytes = "() $01neg"
	var grow func(s string)
	grow = func(s string) {
		holdParse(t, s)
		if len(s) < 5 {
			for i := range len(bytes) {
				grow(s + bytes[i:i+1])
			}
		}
	}
	grow("")
	for _, s := range []string{"(neg ", "(or 1 ", "(or ", "(le 0"} {
		for i := range len(bytes) {
			for j := range len(bytes) {
				for k := range len(bytes) {
					holdParse(t, s+bytes[i:i+1]+bytes[j:j+1]+bytes[k:k+1])
				}
			}
		}
	}
}

func anyTerm(r *rand.Rand, levels int) api.Term {
	if levels == 1 || r.Intn(4) == 0 {
		if r.Intn(2) == 0 {
			return variable(r.Intn(api.Vars))
		}
		return num([]int{0, 1, r.Intn(200), api.MaxInt - r.Intn(2), r.Intn(api.MaxInt)}[r.Intn(5)])
	}
	o := table[r.Intn(len(table))]
	x := with(o.op)
	for range o.kids {
		x.Kids = append(x.Kids, anyTerm(r, levels-1))
	}
	return x
}

// 3.1 and 3.3: what has a text is what that is parsed as; and a text with a change is one just where the other reading says so.
func TestTexts(t *testing.T) {
	r := rand.New(rand.NewSource(3))
	const bytes = "() $019negoradlt\xff"
	for range 20000 {
		x := anyTerm(r, 1+r.Intn(6))
		s, e := term.Text(x)
		if e != api.OK || !isText(s) {
			t.Fatalf("Text(%v): %q, %v", x, s, e)
		}
		y, e := term.Parse(s)
		if e != api.OK || !reflect.DeepEqual(x, y) || !term.Same(x, y) {
			t.Fatalf("Parse(%q): %v, %v", s, y, e)
		}
		at, c := r.Intn(len(s)), r.Intn(len(bytes))
		holdParse(t, s[:at]+bytes[c:c+1]+s[at:])
		holdParse(t, s[:at]+bytes[c:c+1]+s[at+1:])
		holdParse(t, s[:at]+s[at+1:])
		holdParse(t, s[:at])
		holdParse(t, s[at:])
	}
}

// typeOf is another reading of types: 0, if there is a kid of the other type.
func typeOf(x api.Term) int {
	if x.Op == api.OpNum || x.Op == api.OpVar {
		return term.Number
	}
	o := table[x.Op-api.OpNeg]
	for _, k := range x.Kids {
		if typeOf(k) != o.asked {
			return 0
		}
	}
	return o.is
}

// 3.1: types of terms of any kind.
func TestAnyTypes(t *testing.T) {
	r := rand.New(rand.NewSource(4))
	seen := [3]int{}
	for range 50000 {
		x := anyTerm(r, 1+r.Intn(4))
		is, e := term.Check(x)
		want := typeOf(x)
		seen[want]++
		if is != want || (want == 0) != (e == api.ErrType) || (want != 0) != (e == api.OK) {
			t.Fatalf("Check(%v): %d, %v; want %d", x, is, e, want)
		}
	}
	if min(seen[0], seen[1], seen[2]) < 1000 {
		t.Errorf("types that were seen: %v", seen)
	}
}
