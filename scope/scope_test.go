package scope_test

import (
	"math"
	"slices"
	"strconv"
	"strings"
	"testing"

	"treenail/api"
	"treenail/scope"
)

// plan is written as the Parents, - of the root, each with c, if it Catches, and u, if it may Undo: -c 0 1u.
func plan(text string) []scope.Scope {
	var l []scope.Scope
	for _, word := range strings.Fields(text) {
		s := scope.Scope{Catch: strings.Contains(word, "c"), Undo: strings.Contains(word, "u"), Parent: -1}
		if number := strings.TrimRight(word, "cu"); number != "-" {
			s.Parent, _ = strconv.Atoi(number)
		}
		l = append(l, s)
	}
	return l
}

// begun is a run behind what is written as e1 (enter), l1 (leave), f1 (fault), none of which may be an error.
func begun(t *testing.T, text, steps string) *scope.Run {
	t.Helper()
	r, err := scope.New(plan(text))
	if err != api.OK {
		t.Fatalf("New(%s): %v", text, err)
	}
	for _, step := range strings.Fields(steps) {
		if _, err := do(r, step); err != api.OK {
			t.Fatalf("%s, %s: %s: %v", text, steps, step, err)
		}
	}
	return r
}

func do(r *scope.Run, step string) ([]scope.Action, api.Errno) {
	i, _ := strconv.Atoi(step[1:])
	switch step[0] {
	case 'e':
		return nil, r.Enter(i)
	case 'l':
		return nil, r.Leave(i)
	}
	return r.Fault(i)
}

// told are actions, as letters and numbers: E3 is End of 3, U Undo, C Catch, F Fail.
func told(l []scope.Action) string {
	var words []string
	for _, a := range l {
		words = append(words, string(" EUCF"[a.What])+strconv.Itoa(a.Scope))
	}
	return strings.Join(words, " ")
}

// shown are the states of so many scopes: - is Idle, i In, d Done, e Ended, u Undone, c Caught, f Failed; and behind them those that are Done, in their order.
func shown(r *scope.Run, count int) string {
	text := ""
	for i := range count {
		text += string("-ideucf"[r.State(i)])
	}
	for _, i := range r.Order() {
		text += " " + strconv.Itoa(i)
	}
	return text
}

// 22.1: which lists are plans; in a new run all are Idle, but the root is In.
func TestNew(t *testing.T) {
	long := make([]scope.Scope, 33)
	long[0].Parent = -1
	deep := slices.Clone(long)
	for i := range deep {
		deep[i].Parent = i - 1
	}
	for _, c := range []struct {
		l    []scope.Scope
		want api.Errno
	}{
		{nil, api.ErrArg}, {[]scope.Scope{}, api.ErrArg}, {plan("-"), api.OK}, {plan("-cu"), api.OK}, {plan("0"), api.ErrArg}, {plan("-2"), api.ErrArg}, {plan("1 0"), api.ErrArg},
		{plan("- 0"), api.OK}, {plan("- 1"), api.ErrArg}, {plan("- -"), api.ErrArg}, {plan("- -2"), api.ErrArg}, {plan("- 2 0"), api.ErrArg}, {plan("- 0 1"), api.OK}, {plan("- 0 2"), api.ErrArg},
		{plan("- 0 1 1 0 3"), api.OK}, {plan("- 0 1 1 0 5"), api.ErrArg}, {plan("- 0 1 1 0 6"), api.ErrArg}, {plan("- 0 -"), api.ErrArg},
		{long[:32], api.OK}, {long, api.ErrArg}, {deep[:32], api.OK}, {deep, api.ErrArg}, {deep[1:], api.ErrArg},
		{[]scope.Scope{{Parent: math.MinInt}}, api.ErrArg}, {[]scope.Scope{{Parent: -1}, {Parent: math.MaxInt}}, api.ErrArg}, {[]scope.Scope{{Parent: -1}, {Parent: math.MinInt}}, api.ErrArg},
	} {
		r, err := scope.New(c.l)
		if err != c.want || (r == nil) != (err != api.OK) {
			t.Errorf("New(%v): %v, %v", c.l, r, err)
		}
		if err == api.OK && shown(r, len(c.l)) != "i"+strings.Repeat("-", len(c.l)-1) {
			t.Errorf("New(%v): %s", c.l, shown(r, len(c.l)))
		}
	}
}

// 22.1: what may be entered and left; 22.2: in which states there may be a fault. R4: an error changes nothing.
func TestSteps(t *testing.T) {
	for _, c := range []struct {
		plan, ahead, step string
		want              api.Errno
		shown             string
	}{
		{"- 0 1 0", "", "e1", api.OK, "ii--"},
		{"- 0 1 0", "", "e2", api.ErrState, "i---"},
		{"- 0 1 0", "", "e0", api.ErrState, "i---"},
		{"- 0 1 0", "", "e4", api.ErrArg, "i---"},
		{"- 0 1 0", "", "e-1", api.ErrArg, "i---"},
		{"- 0 1 0", "e1", "e1", api.ErrState, "ii--"},
		{"- 0 1 0", "e1", "e2", api.OK, "iii-"},
		{"- 0 1 0", "e1 l1", "e1", api.ErrState, "id-- 1"},
		{"- 0 1 0", "e1 l1", "e2", api.ErrState, "id-- 1"},
		{"- 0 1 0", "l0", "e1", api.ErrState, "d--- 0"},
		{"- 0 1 0", "l0", "e0", api.ErrState, "d--- 0"},
		{"- 0c 1 0", "e1 f1", "e2", api.ErrState, "ic--"},
		{"- 0c 1 0", "e1 f1", "e1", api.ErrState, "ic--"},
		{"- 0c 1 0", "e1 f1", "e3", api.OK, "ic-i"},
		{"- 0 1 0", "f0", "e3", api.ErrState, "f---"},
		{"- 0 1 0", "e3 l3 f0", "e3", api.ErrState, "f--u"},
		{"- 0c 1", "e1 e2 f1", "e2", api.ErrState, "ice"},

		{"- 0 1 0", "e1", "l1", api.OK, "id-- 1"},
		{"- 0 1 0", "e1 e2", "l1", api.ErrState, "iii-"},
		{"- 0 1 0", "e1 e2 l2", "l1", api.OK, "idd- 2 1"},
		{"- 0 1 0", "e1 e2", "l0", api.ErrState, "iii-"},
		{"- 0 1 0", "e1 e2 e3", "l3", api.OK, "iiid 3"},
		{"- 0 1 0", "", "l1", api.ErrState, "i---"},
		{"- 0 1 0", "e1 l1", "l1", api.ErrState, "id-- 1"},
		{"- 0 1 0", "", "l0", api.OK, "d--- 0"},
		{"- 0 1 0", "l0", "l0", api.ErrState, "d--- 0"},
		{"- 0 1 0", "", "l4", api.ErrArg, "i---"},
		{"- 0 1 0", "", "l-1", api.ErrArg, "i---"},
		{"- 0c 1 0", "e1 f1", "l1", api.ErrState, "ic--"},
		{"- 0c 1 0", "e1 f1", "l0", api.OK, "dc-- 0"},
		{"- 0 1 0", "e3 l3 e1 l1", "l0", api.OK, "dd-d 3 1 0"},
		{"- 0 1 0", "f0", "l0", api.ErrState, "f---"},
		{"-c 0 1 0", "f0", "l0", api.ErrState, "c---"},

		{"- 0 1 0", "", "f4", api.ErrArg, "i---"},
		{"- 0 1 0", "", "f-1", api.ErrArg, "i---"},
		{"- 0 1 0", "", "f1", api.ErrState, "i---"},
		{"- 0 1 0", "e1 l1", "f1", api.ErrState, "id-- 1"},
		{"- 0 1 0", "l0", "f0", api.ErrState, "d--- 0"},
		{"- 0c 1 0", "e1 f1", "f1", api.ErrState, "ic--"},
		{"- 0 1 0", "e1 f1", "f1", api.ErrState, "ff--"},
		{"- 0 1 0", "e1 f1", "f0", api.ErrState, "ff--"},
		{"- 0c 1", "e1 e2 f1", "f2", api.ErrState, "ice"},
		{"- 0c 1", "e1 e2 l2 f1", "f2", api.ErrState, "icu"},
	} {
		r := begun(t, c.plan, c.ahead)
		l, err := do(r, c.step)
		if err != c.want || len(l) > 0 {
			t.Errorf("%s, %s: %s: %v, %v, want %v", c.plan, c.ahead, c.step, l, err, c.want)
		}
		if got := shown(r, len(plan(c.plan))); got != c.shown {
			t.Errorf("%s, %s: %s: %s, want %s", c.plan, c.ahead, c.step, got, c.shown)
		}
	}
}

// 22.2: what a fault does, one behind the other, and what scopes are behind it.
func TestFault(t *testing.T) {
	for _, c := range []struct {
		what, plan, ahead string
		in                int
		told, shown       string
	}{
		{"the root alone fails", "-", "", 0, "F0", "f"},
		{"the root alone catches", "-c", "", 0, "C0", "c"},
		{"the document's example", "-c 0u 0u", "e1 e2 l1 l2", 0, "U2 U1 C0", "cuu"},
		{"the other one done last", "-c 0u 0u", "e1 e2 l2 l1", 0, "U1 U2 C0", "cuu"},
		{"what is Idle stays so", "-c 0u 1 0", "e1", 0, "E1 C0", "ce--"},
		{"a fault goes on to the Parent", "- 0 1 2", "e1 e2 e3", 3, "F3 F2 F1 F0", "ffff"},
		{"up to one that catches", "- 0c 1 2", "e1 e2 e3", 3, "F3 F2 C1", "icff"},
		{"not further", "-c 0c 1c 2c", "e1 e2 e3", 3, "C3", "iiic"},
		{"those beside it are ended, if it is not caught", "-c 0 0 0", "e1 e2 e3", 2, "F2 E3 E1 C0", "cefe"},
		{"those beside it go on, if it is", "-c 0 0c 0", "e1 e2 e3", 2, "C2", "iici"},
		{"the greatest number is ended first", "- 0 0 0 0", "e3 e1 e4 e2", 0, "E4 E3 E2 E1 F0", "feeee"},
		{"parts are ended ahead of what they are in", "- 0 1 2 0", "e1 e2 e3 e4", 0, "E4 E3 E2 E1 F0", "feeee"},
		{"of what is in the scope the greatest first, with its parts", "- 0 0 1 2", "e1 e2 e3 e4", 0, "E4 E2 E3 E1 F0", "feeee"},
		{"of all parts of one that is ended the greater number first", "- 0 1 1 2 3", "e1 e2 e3 e4 e5", 0, "E5 E4 E3 E2 E1 F0", "feeeee"},
		{"the same by a fault beside it", "-c 0 1 1 2 3 0", "e1 e2 e3 e4 e5 e6", 6, "F6 E5 E4 E3 E2 E1 C0", "ceeeeef"},
		{"one that is ended does not catch", "- 0c 1c", "e1 e2", 0, "E2 E1 F0", "fee"},
		{"what is done in one that is ended stays", "- 0 1u 1u", "e1 e2 e3 l3", 0, "E2 E1 F0", "feed 3"},
		{"ended ahead of undone", "- 0u 0 0u 0", "e1 l1 e2 e3 l3 e4", 0, "E4 E2 U3 U1 F0", "fueue"},
		{"one that can't be undone, its parts", "- 0 1u 1u", "e1 e3 e2 l3 l2 l1", 0, "U2 U3 F0", "fuuu"},
		{"one without parts: no action", "- 0 0u", "e1 e2 l2 l1", 0, "U2 F0", "fuu"},
		{"one that can, without its parts", "- 0u 1u 1u", "e1 e3 e2 l3 l2 l1", 0, "U1 F0", "fudd 3 2"},
		{"parts of parts", "- 0 1 2u 1u", "e1 e2 e3 l3 l2 e4 l4 l1", 0, "U4 U3 F0", "fuuuu"},
		{"a part that can, without those deeper", "- 0 1u 2u", "e1 e2 e3 l3 l2 l1", 0, "U2 F0", "fuud 3"},
		{"deeper ones of one that was caught stay", "- 0 1c 2u 3u", "e1 e2 e3 e4 l4 l3 f2 l1", 0, "F0", "fucud 4"},
		{"deeper ones stay behind a fault", "- 0c 1u 2u 1 4u", "e1 e2 e3 l3 l2 e4 e5 l5 l4", 1, "U5 U2 C1", "icuduu 3"},
		{"those around are undone by a fault in them only", "- 0u 0 2u", "e1 l1 e2 e3 l3", 2, "U3 F2 U1 F0", "fufu"},
		{"or not at all", "- 0u 0c 2u", "e1 l1 e2 e3 l3", 2, "U3 C2", "idcu 1"},
		{"one that was caught is not undone", "- 0cu 0u", "e1 f1 e2 l2", 0, "U2 F0", "fcu"},
		{"by turns", "-c 0 1u 0 3u", "e1 e2 e3 e4 l2 l4 l1 l3", 0, "U4 U2 C0", "cuuuu"},
	} {
		r := begun(t, c.plan, c.ahead)
		l, err := r.Fault(c.in)
		if err != api.OK || told(l) != c.told {
			t.Errorf("%s: %s, %v, want %s", c.what, told(l), err, c.told)
		}
		if got := shown(r, len(plan(c.plan))); got != c.shown {
			t.Errorf("%s: %s, want %s", c.what, got, c.shown)
		}
	}
}

// 22.2: the order in which they were done, not their numbers' order; one that is undone is not Done any more.
func TestOrder(t *testing.T) {
	r := begun(t, "-c 0u 0c 2u 0u", "e4 e1 e2 e3")
	for _, c := range []struct{ step, want string }{
		{"l4", "iiiid 4"}, {"l3", "iiidd 4 3"}, {"l1", "ididd 4 3 1"}, {"f2", "idcud 4 1"}, {"f0", "cucuu"},
	} {
		if _, err := do(r, c.step); err != api.OK || shown(r, 5) != c.want {
			t.Errorf("%s: %s, %v, want %s", c.step, shown(r, 5), err, c.want)
		}
	}
}

// 22.2: of what is no scope the state is Idle.
func TestState(t *testing.T) {
	r := begun(t, "- 0", "e1 l1 l0")
	for _, i := range []int{-1, 2, 31, 32, math.MinInt, math.MaxInt} {
		if got := r.State(i); got != scope.Idle {
			t.Errorf("State(%d): %d", i, got)
		}
	}
	if r.State(0) != scope.Done || r.State(1) != scope.Done {
		t.Errorf("%s", shown(r, 2))
	}
}

// 22: of a nil run all is ErrState, whatever i is, Idle, and nothing.
func TestNil(t *testing.T) {
	var r *scope.Run
	for _, i := range []int{0, 1, -1, 32, math.MinInt, math.MaxInt} {
		l, err := r.Fault(i)
		if r.Enter(i) != api.ErrState || r.Leave(i) != api.ErrState || err != api.ErrState || len(l) > 0 || r.State(i) != scope.Idle {
			t.Errorf("%d: %v, %v, %v, %v, %d", i, r.Enter(i), r.Leave(i), l, err, r.State(i))
		}
	}
	if len(r.Order()) > 0 {
		t.Errorf("%v", r.Order())
	}
}

// P3: no call panics, of a run that New did not make, and of any numbers.
func TestEnds(t *testing.T) {
	for _, r := range []*scope.Run{{}, begun(t, "- 0", ""), begun(t, "- 0", "l0"), begun(t, "- 0", "f0")} {
		for _, i := range []int{math.MinInt, -1, 2, 32, math.MaxInt} {
			l, err := r.Fault(i)
			if r.Enter(i) != api.ErrArg || r.Leave(i) != api.ErrArg || err != api.ErrArg || len(l) > 0 {
				t.Errorf("%d: %v, %v, %v, %v", i, r.Enter(i), r.Leave(i), l, err)
			}
		}
		r.Order()
	}
}

// R3: the plan is not changed and not kept; lists are new memory.
func TestMemory(t *testing.T) {
	room := plan("-c 0u 1u 0u 9 9")
	was := slices.Clone(room)
	l := room[:4]
	r, _ := scope.New(l)
	for _, step := range strings.Fields("e1 e2 l2 l1 e3 l3") {
		do(r, step)
	}
	if !slices.Equal(room, was) {
		t.Errorf("%v", room)
	}
	for i := range l {
		l[i] = scope.Scope{Parent: 7}
	}
	order := r.Order()
	order[0] = 77
	_ = append(order, 78)
	if shown(r, 4) != "iddd 2 1 3" {
		t.Errorf("%s", shown(r, 4))
	}
	acts, err := r.Fault(0)
	if told(acts) != "U3 U1 C0" || err != api.OK {
		t.Errorf("%s, %v", told(acts), err)
	}
	clear(acts[:cap(acts)])
	if shown(r, 4) != "cudu 2" || !slices.Equal(r.Order(), []int{2}) || order[1] != 1 {
		t.Errorf("%s, %v", shown(r, 4), order)
	}
}

// 22.1: two runs of one plan are apart.
func TestApart(t *testing.T) {
	l := plan("- 0 0")
	first, _ := scope.New(l)
	second, _ := scope.New(l)
	first.Enter(1)
	first.Leave(1)
	second.Enter(2)
	first.Fault(0)
	if shown(first, 3) != "fu-" || shown(second, 3) != "i-i" {
		t.Errorf("%s, %s", shown(first, 3), shown(second, 3))
	}
}

// The numbers that the chapter names.
func TestNumbers(t *testing.T) {
	states := []int{scope.Idle, scope.In, scope.Done, scope.Ended, scope.Undone, scope.Caught, scope.Failed}
	actions := []int{scope.End, scope.Undo, scope.Catch, scope.Fail}
	if !slices.Equal(states, []int{0, 1, 2, 3, 4, 5, 6}) || !slices.Equal(actions, []int{1, 2, 3, 4}) {
		t.Errorf("%v, %v", states, actions)
	}
}
