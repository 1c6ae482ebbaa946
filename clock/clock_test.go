package clock_test

import (
	"fmt"
	"math"
	"slices"
	"strconv"
	"strings"
	"testing"

	"treenail/api"
	"treenail/clock"
)

const end = 1 << 40

// do does what is written as set 7 2, drop 7 or tick 1; end is the greatest time.
func do(c *clock.Clock, text string) api.Errno {
	words := append(strings.Fields(text), "0")
	number := func(word string) int {
		less, isEnd := strings.CutPrefix(word, "end")
		n, _ := strconv.Atoi(less)
		if isEnd {
			n += end
		}
		return n
	}
	switch words[0] {
	case "set":
		return c.Set(number(words[1]), number(words[2]))
	case "drop":
		return c.Drop(number(words[1]))
	}
	return c.Tick(number(words[1]))
}

// after is a clock behind all this, none of which may be an error.
func after(t *testing.T, texts ...string) *clock.Clock {
	t.Helper()
	c := clock.New()
	for _, text := range texts {
		if err := do(c, text); err != api.OK {
			t.Fatalf("%s: %v", text, err)
		}
	}
	return c
}

// shown is what can be told of a clock and these ids: the time, what is due, how long it is until the next is, and until each of them is.
func shown(c *clock.Clock, ids ...int) string {
	text := fmt.Sprint(c.Now(), " ", c.Due())
	if next, ok := c.Next(); ok {
		text += fmt.Sprint(" next ", next)
	}
	for _, id := range ids {
		if left, ok := c.Left(id); ok {
			text += fmt.Sprint(" ", id, ":", left)
		}
	}
	return text
}

// all are so many alarms, from 0 on.
func all(count int) []string {
	var l []string
	for id := range count {
		l = append(l, fmt.Sprint("set ", id, " 5"))
	}
	return l
}

// 23: the chapter's example.
func TestExample(t *testing.T) {
	c := after(t, "set 7 2", "tick 1", "set 3 1", "tick 1")
	if l := c.Due(); !slices.Equal(l, []int{3, 7}) {
		t.Errorf("Due: %v", l)
	}
}

// 23.1: what is done to a clock, and its errors, the first that is so; an error changes nothing.
func TestErrors(t *testing.T) {
	one := []string{"tick 3", "set 7 2"}
	for _, c := range []struct {
		ahead []string
		text  string
		want  api.Errno
		shown string
	}{
		{nil, "set 7 2", api.OK, "0 [] next 2 7:2"},
		{nil, "set 0 0", api.OK, "0 [0] next 0 0:0"},
		{nil, "set 7 end", api.OK, "0 [] next 1099511627776 7:1099511627776"},
		{nil, "set -1 2", api.ErrArg, "0 []"},
		{nil, "set 7 -1", api.ErrArg, "0 []"},
		{nil, "set 7 end+1", api.ErrArg, "0 []"},
		{one, "set 7 2", api.ErrSame, "3 [] next 2 7:2"},
		{one, "set 7 1", api.ErrSame, "3 [] next 2 7:2"},
		{one, "set 7 -1", api.ErrArg, "3 [] next 2 7:2"},
		{one, "set 7 end", api.ErrSame, "3 [] next 2 7:2"},
		{one, "set 8 end", api.ErrOver, "3 [] next 2 7:2"},
		{one, "set 8 end-2", api.ErrOver, "3 [] next 2 7:2"},
		{one, "set 8 end-3", api.OK, "3 [] next 2 7:2 8:1099511627773"},
		{one, "set 8 1", api.OK, "3 [] next 1 7:2 8:1"},
		{append(all(63), "tick 1"), "set 63 4", api.OK, "1 [] next 4 0:4 7:4 8:4 63:4"},
		{append(all(64), "tick 1"), "set 64 4", api.ErrFull, "1 [] next 4 0:4 7:4 8:4 63:4"},
		{append(all(64), "tick 1"), "set 63 4", api.ErrSame, "1 [] next 4 0:4 7:4 8:4 63:4"},
		{append(all(64), "tick 1"), "set 64 end", api.ErrFull, "1 [] next 4 0:4 7:4 8:4 63:4"},
		{append(all(64), "tick 1"), "set 64 end+1", api.ErrArg, "1 [] next 4 0:4 7:4 8:4 63:4"},
		{append(all(64), "drop 7", "tick 1"), "set 64 4", api.OK, "1 [] next 4 0:4 8:4 63:4 64:4"},
		{one, "drop 7", api.OK, "3 []"},
		{one, "drop 8", api.ErrNone, "3 [] next 2 7:2"},
		{one, "drop -1", api.ErrNone, "3 [] next 2 7:2"},
		{append(slices.Clone(one), "drop 7"), "drop 7", api.ErrNone, "3 []"},
		{append(slices.Clone(one), "drop 7"), "set 7 5", api.OK, "3 [] next 5 7:5"},
		{append(slices.Clone(one), "tick 9"), "drop 7", api.OK, "12 []"},
		{one, "tick 0", api.OK, "3 [] next 2 7:2"},
		{one, "tick 1", api.OK, "4 [] next 1 7:1"},
		{one, "tick 2", api.OK, "5 [7] next 0 7:0"},
		{one, "tick 3", api.OK, "6 [7] next 0 7:0"},
		{one, "tick -1", api.ErrArg, "3 [] next 2 7:2"},
		{one, "tick end+1", api.ErrArg, "3 [] next 2 7:2"},
		{one, "tick end", api.ErrOver, "3 [] next 2 7:2"},
		{one, "tick end-2", api.ErrOver, "3 [] next 2 7:2"},
		{one, "tick end-3", api.OK, "1099511627776 [7] next 0 7:0"},
		{nil, "tick end", api.OK, "1099511627776 []"},
		{[]string{"tick end"}, "tick 0", api.OK, "1099511627776 []"},
		{[]string{"tick end"}, "tick 1", api.ErrOver, "1099511627776 []"},
		{[]string{"tick end"}, "set 8 0", api.OK, "1099511627776 [8] next 0 8:0"},
		{[]string{"tick end"}, "set 8 1", api.ErrOver, "1099511627776 []"},
		{[]string{"set 8 end", "tick end-1"}, "tick 1", api.OK, "1099511627776 [8] next 0 8:0"},
	} {
		k := after(t, c.ahead...)
		if err := do(k, c.text); err != c.want {
			t.Errorf("%v, %s: %v, want %v", c.ahead, c.text, err, c.want)
		}
		if got := shown(k, -1, 0, 7, 8, 63, 64); got != c.shown {
			t.Errorf("%v, %s: %s, want %s", c.ahead, c.text, got, c.shown)
		}
	}
}

// 23.1: a clock of New is at 0 and has no alarms; at most Most, 64, are set.
func TestNew(t *testing.T) {
	c := clock.New()
	if c == nil || shown(c, 0, 1, 2) != "0 []" {
		t.Fatal(shown(c))
	}
	if clock.Most != 64 {
		t.Errorf("Most: %d", clock.Most)
	}
	c.Tick(4)
	c.Set(1, 1)
	if other := clock.New(); shown(other, 1) != "0 []" {
		t.Error(shown(other, 1))
	}
	// An id may be as great as a number is.
	if err := c.Set(math.MaxInt, 0); err != api.OK || !slices.Equal(c.Due(), []int{math.MaxInt}) {
		t.Errorf("%v, %v", err, c.Due())
	}
}

// 23.2: what is due comes by its times, of one time by its ids.
func TestOrder(t *testing.T) {
	c := after(t, "set 5 3", "set 9 1", "set 1 4", "set 2 3", "tick 1", "set 4 2", "set 8 0", "set 0 9")
	for _, want := range []string{"1 [8 9] next 0", "2 [8 9] next 0", "3 [8 9 2 4 5] next 0", "4 [8 9 2 4 5 1] next 0"} {
		if got := shown(c); got != want {
			t.Errorf("%s, want %s", got, want)
		}
		c.Tick(1)
	}
}

// 23.2: how long it is until the next is due; none, if there is no alarm.
func TestNext(t *testing.T) {
	c := after(t, "set 5 7", "set 6 4", "tick 1")
	for _, x := range []struct {
		text string
		want string
	}{
		{"tick 1", "2 [] next 2 5:5 6:2"}, {"drop 6", "2 [] next 5 5:5"}, {"set 6 0", "2 [6] next 0 5:5 6:0"}, {"tick 4", "6 [6] next 0 5:1 6:0"},
		{"drop 6", "6 [] next 1 5:1"}, {"tick 1", "7 [5] next 0 5:0"}, {"drop 5", "7 []"},
	} {
		if err := do(c, x.text); err != api.OK || shown(c, 5, 6) != x.want {
			t.Errorf("%s: %v, %s, want %s", x.text, err, shown(c, 5, 6), x.want)
		}
	}
	for _, id := range []int{5, 6, -1, math.MinInt, math.MaxInt} {
		if left, ok := c.Left(id); left != 0 || ok {
			t.Errorf("Left(%d): %d, %v", id, left, ok)
		}
	}
	if next, ok := c.Next(); next != 0 || ok {
		t.Errorf("Next: %d, %v", next, ok)
	}
}

// R3: a list of ids is new memory.
func TestMemory(t *testing.T) {
	c := after(t, "set 5 0", "set 2 0", "set 9 0")
	first := c.Due()
	second := c.Due()
	first[:cap(first)][0] = 77
	_ = append(first, 78)
	if want := []int{2, 5, 9}; !slices.Equal(second, want) || !slices.Equal(c.Due(), want) {
		t.Errorf("%v, %v", second, c.Due())
	}
}

// 23: a nil clock tells ErrState, but ErrArg first, and has nothing.
func TestNil(t *testing.T) {
	var c *clock.Clock
	for _, x := range []struct {
		text string
		want api.Errno
	}{
		{"set 5 0", api.ErrState}, {"set 5 end", api.ErrState}, {"set -1 0", api.ErrArg}, {"set 5 -1", api.ErrArg}, {"set 5 end+1", api.ErrArg},
		{"drop 5", api.ErrState}, {"drop -1", api.ErrState}, {"tick 0", api.ErrState}, {"tick end", api.ErrState}, {"tick -1", api.ErrArg}, {"tick end+1", api.ErrArg},
	} {
		if err := do(c, x.text); err != x.want {
			t.Errorf("%s: %v, want %v", x.text, err, x.want)
		}
	}
	if got := shown(c, 0, 5); got != "0 []" {
		t.Error(got)
	}
}

// P3: no call panics, of a clock that New did not make, and of any numbers.
func TestEnds(t *testing.T) {
	numbers := []int{math.MinInt, -end - 1, -1, 0, 3, end - 1, end, end + 1, math.MaxInt}
	for _, c := range []*clock.Clock{nil, {}, clock.New(), after(t, "set 0 0", "tick end")} {
		for _, id := range numbers {
			for _, n := range numbers {
				c.Set(id, n)
				c.Tick(n)
				c.Next()
			}
			c.Left(id)
			c.Drop(id)
		}
		c.Due()
	}
	var c clock.Clock
	if c.Drop(1) != api.ErrNone || c.Tick(2) != api.OK || c.Set(1, 1) != api.OK || shown(&c, 1) != "2 [] next 1 1:1" {
		t.Error(shown(&c, 1))
	}
}
