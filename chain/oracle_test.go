package chain_test

import (
	"math/rand"
	"reflect"
	"slices"
	"strings"
	"testing"

	"treenail/api"
	"treenail/bpel"
	"treenail/chain"
	"treenail/chart"
	"treenail/hold"
	"treenail/net"
	"treenail/page"
	"treenail/plan"
	"treenail/sample"
	"treenail/shape"
	"treenail/trail"
)

// process is a right process, of any kind.
func process(r *rand.Rand) api.Net {
	kinds := []func(func(int) int) api.Net{sample.Net, sample.Crossed, sample.Knit, sample.Woven}
	return kinds[r.Intn(len(kinds))](r.Intn)
}

// 25.1, 25.3: what is made of right processes is the program of their plans; it is read as a right program, the one that was made, and written as the same bytes.
func TestRight(t *testing.T) {
	r := rand.New(rand.NewSource(1))
	kinds := map[int]int{}
	for range 1500 {
		n := process(r)
		b, kind, _ := plan.Of(n)
		want, err := shape.Of(n, b)
		if err != api.OK {
			t.Fatalf("%v has no program: %v", n, err)
		}
		kinds[kind]++
		a, l := chain.Program(n)
		if !bpel.Same(a, want) || len(l) != 0 {
			t.Fatalf("Program(%v): %v, %v; want %v", n, a, l, want)
		}
		s := written(t, n)
		if m, l := chain.Net(s); !reflect.DeepEqual(m, n) || len(l) != 0 {
			t.Fatalf("Net(%s): %v, %v", s, m, l)
		}
		if k := chain.Kind(s); k != kind {
			t.Fatalf("Kind(%s): %d; want %d", s, k, kind)
		}
		wantMade(t, s, want)
	}
	for kind := plan.Whole; kind <= plan.Ruled; kind++ {
		if kinds[kind] < 100 {
			t.Errorf("plan %d: %d times", kind, kinds[kind])
		}
	}
}

// wantMade asks for the document of a program, and that it is read as that one.
func wantMade(t *testing.T, s string, want bpel.Act) {
	t.Helper()
	text, l := chain.Compile(s)
	if len(l) != 0 || text == "" {
		t.Fatalf("Compile(%s): %q, %v", s, text, l)
	}
	a, at, err := page.Read(text)
	if !bpel.Same(a, want) || at != 0 || err != api.OK || bpel.Check(a) != api.OK {
		t.Fatalf("Compile(%s): %s is read as %v, %d, %v; want %v", s, text, a, at, err, want)
	}
	if again, err := page.Write(a); again != text || err != api.OK {
		t.Fatalf("Compile(%s): %s, written again %s, %v", s, text, again, err)
	}
}

// P1: what can be seen of a process's program, as it is read from its bytes, is what can be seen of the process, behind whatever was seen.
func TestSameIsSeen(t *testing.T) {
	r := rand.New(rand.NewSource(2))
	kinds, ends, faults := map[int]int{}, 0, 0
	for range 400 {
		s := written(t, process(r))
		text, _ := chain.Compile(s)
		n, _, _, _ := chart.Read(s)
		a, _, err := page.Read(text)
		if err != api.OK {
			t.Fatalf("Compile(%s): %s", s, text)
		}
		kinds[chain.Kind(s)]++
		way := walk(t, r, n, a)
		if len(way) == 0 {
			continue
		}
		switch way[len(way)-1].Kind {
		case api.Finished:
			ends++
		case api.Faulted:
			faults++
		}
	}
	if kinds[1] < 40 || kinds[2] < 40 || kinds[3] < 40 || ends < 50 || faults < 20 {
		t.Errorf("plans %v, %d ends, %d faults", kinds, ends, faults)
	}
}

// walk goes behind any labels, of both a process and a program, as long as their clouds are not too great to be gone through quickly.
func walk(t *testing.T, r *rand.Rand, n api.Net, a bpel.Act) []api.Label {
	t.Helper()
	var way []api.Label
	theirs, full := trail.Begin(n)
	ours, err := hold.Begin(a)
	for len(way) < 25 && full == api.OK && err == api.OK && len(theirs)+len(ours) < 400 {
		want, got := trail.Labels(n, theirs), hold.Labels(a, ours)
		if !slices.Equal(got, want) {
			t.Fatalf("%v behind %v: %v; of the process %v", n, way, got, want)
		}
		if len(want) == 0 {
			break
		}
		// Most labels are arrivals, which lead no further.
		own := slices.DeleteFunc(slices.Clone(want), func(x api.Label) bool { return x.Kind == api.Arrived })
		if len(own) == 0 || r.Intn(4) == 0 {
			own = want
		}
		x := own[r.Intn(len(own))]
		way = append(way, x)
		theirs, full = trail.After(n, theirs, x)
		ours, err = hold.After(a, ours, x)
	}
	return way
}

// told is what is to be told of a document, by what layers 5 and 6 say of it.
func told(t *testing.T, s string) []chain.Report {
	t.Helper()
	_, place, why, err := chart.Read(s)
	switch {
	case err == api.OK:
		return nil
	case why == 0:
		return at(1, int(err), place)
	case why == 1:
		return at(1, -1, 0)
	case why > 1:
		return at(1, -2, why-2)
	}
	var l []int
	for _, b := range net.All(netOf(t, s)) {
		l = append(l, b.At)
	}
	return at(2, -why, l...)
}

// altered is a document with something in it left out, put twice, put elsewhere, or changed.
func altered(r *rand.Rand, s string) string {
	marks := strings.SplitAfter(s, ">")
	i, j := r.Intn(len(marks)), r.Intn(len(marks))
	switch r.Intn(9) {
	case 0:
		marks[i] = ""
	case 1:
		marks[i] += marks[j]
	case 2:
		marks[i], marks[j] = marks[j], marks[i]
	case 3:
		names := []string{"start", "end", "task", "assign", "xor", "and", "event", "catch", "flow", "process", "x"}
		marks[i] = strings.Replace(marks[i], names[r.Intn(len(names))], names[r.Intn(len(names))], 1)
	case 4:
		digits := "0123456789"
		from, to := r.Intn(10), r.Intn(10)
		marks[i] = strings.Replace(marks[i], digits[from:from+1], digits[to:to+1], 1)
	case 5:
		bytes := []byte(s)
		bytes[r.Intn(len(bytes))] = "<>/ \"=&;0$(x\x00\xff"[r.Intn(14)]
		return string(bytes)
	case 6:
		marks[i] = strings.Replace(marks[i], ` else="yes"`, "", 1)
	case 7:
		return strings.ReplaceAll(s, []string{"process", "task", "xor"}[r.Intn(3)], []string{"processes", "and"}[r.Intn(2)])
	case 8:
		// Two flows lead where the other one did, so that many rules still hold.
		one, to, isFlow := strings.Cut(marks[i], ` to=`)
		other, too, areFlows := strings.Cut(marks[j], ` to=`)
		if isFlow && areFlows {
			marks[i], marks[j] = one+` to=`+too, other+` to=`+to
		}
	}
	return strings.Join(marks, "")
}

// 25.1, 25.2: documents with a fault, or some: all reports of the first part at which something is wrong.
func TestAltered(t *testing.T) {
	r := rand.New(rand.NewSource(3))
	parts, codes := map[int]int{}, map[int]int{}
	for range 8000 {
		s := written(t, process(r))
		for range 1 + r.Intn(3) {
			s = altered(r, s)
		}
		want := told(t, s)
		if len(want) == 0 {
			n, l := chain.Net(s)
			if rule, _ := net.Check(n); rule != 0 || len(l) != 0 {
				t.Fatalf("Net(%s): %v, %v", s, n, l)
			}
			a, _ := chain.Program(n)
			wantMade(t, s, a)
			parts[0]++
			continue
		}
		wantReports(t, s, want...)
		parts[want[0].Part]++
		codes[10*want[0].Part+want[0].Code]++
		if len(want) > 1 {
			parts[9]++
		}
	}
	for _, code := range []int{10 - 1, 10 - 2, 10 + int(api.ErrForm), 21, 22, 23, 24} {
		if codes[code] < 5 {
			t.Errorf("parts and codes %v", codes)
			break
		}
	}
	if parts[0] < 50 || parts[1] < 500 || parts[2] < 500 || parts[9] < 200 {
		t.Errorf("parts %v", parts)
	}
}

// 25.2, P3: any bytes end with a document and no report, or with no document and a report at least.
func TestAnyBytes(t *testing.T) {
	r := rand.New(rand.NewSource(4))
	pieces := []string{
		"<process>", "</process>", "<process/>", "<start/>", "<end/>", `<task var="`, `"/>`, "<xor/>", "<and/>", "<event/>", "<catch/>", `<flow from="`, `" to="`, `" else="yes`, `" if="`,
		"0", "1", "2", "$0", "(eq ", " ", ")", "<", ">", "&lt;", "&", "\n", "\x00", "\xff", "x",
	}
	for range 20000 {
		s := ""
		for range r.Intn(12) {
			s += pieces[r.Intn(len(pieces))]
		}
		if r.Intn(2) == 0 {
			s = "<process>" + s + "</process>"
		}
		text, l := chain.Compile(s)
		if (text == "") != (len(l) > 0) {
			t.Fatalf("Compile(%q): %q, %v", s, text, l)
		}
		if want := told(t, s); !slices.Equal(l, want) {
			t.Fatalf("Compile(%q): %v; want %v", s, l, want)
		}
	}
	for _, s := range []string{strings.Repeat("<process>", 2000), strings.Repeat("</process>", 2000), strings.Repeat("<", api.MaxText), strings.Repeat("\x00", 1<<20), strings.Repeat("<start/>", 1<<20)} {
		if text, l := chain.Compile(s); text != "" || len(l) != 1 || l[0].Part != 1 {
			t.Errorf("Compile(%.20q): %q, %v", s, text, l)
		}
	}
}
