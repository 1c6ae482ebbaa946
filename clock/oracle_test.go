package clock_test

import (
	"math/rand"
	"slices"
	"testing"

	"treenail/api"
	"treenail/clock"
)

// event is what was done without an error: s, d or t; a tick's id is 0, and n how long it was.
type event struct {
	what  byte
	id, n int
}

// gone is how much time went by in all these events.
func gone(past []event) int {
	sum := 0
	for _, e := range past {
		if e.what == 't' {
			sum += e.n
		}
	}
	return sum
}

// until is how long it is until an alarm is due, below 0 if it was due already, by how long ago it was set; and whether there is one.
func until(past []event, id int) (int, bool) {
	for i := len(past) - 1; i >= 0; i-- {
		e := past[i]
		if e.id == id && e.what == 'd' {
			return 0, false
		}
		if e.id == id && e.what == 's' {
			return e.n - gone(past[i+1:]), true
		}
	}
	return 0, false
}

// there are the ids of which there is an alarm.
func there(past []event) []int {
	var l []int
	for _, e := range past {
		if _, ok := until(past, e.id); ok && e.what == 's' && !slices.Contains(l, e.id) {
			l = append(l, e.id)
		}
	}
	return l
}

// read is what the promises say of an event, by the past alone.
func read(past []event, e event) api.Errno {
	_, is := until(past, e.id)
	switch {
	case e.what == 's' && e.id < 0, e.what != 'd' && (e.n < 0 || e.n > end):
		return api.ErrArg
	case e.what == 's' && is:
		return api.ErrSame
	case e.what == 's' && len(there(past)) == 64:
		return api.ErrFull
	case e.what != 'd' && gone(past)+e.n > end:
		return api.ErrOver
	case e.what == 'd' && !is:
		return api.ErrNone
	}
	return api.OK
}

func send(c *clock.Clock, e event) api.Errno {
	switch e.what {
	case 's':
		return c.Set(e.id, e.n)
	case 'd':
		return c.Drop(e.id)
	}
	return c.Tick(e.n)
}

// wantPast holds what a clock tells against the past.
func wantPast(t *testing.T, c *clock.Clock, past []event, ids []int) {
	t.Helper()
	least, alarms := end+1, there(past)
	var due []int
	for _, id := range ids {
		want, is := until(past, id)
		left, ok := c.Left(id)
		if ok != is || left != max(0, want) {
			t.Fatalf("Left(%d): %d, %v; want %d, %v", id, left, ok, want, is)
		}
		if is {
			least = min(least, left)
		}
	}
	for _, id := range alarms {
		if left, _ := until(past, id); left <= 0 {
			due = append(due, id)
		}
	}
	slices.SortFunc(due, func(a, b int) int {
		x, _ := until(past, a)
		y, _ := until(past, b)
		if x != y {
			return x - y
		}
		return a - b
	})
	if got := c.Due(); !slices.Equal(got, due) {
		t.Fatalf("Due: %v, want %v", got, due)
	}
	next, ok := c.Next()
	if ok != (len(alarms) > 0) || ok && next != least || !ok && next != 0 {
		t.Fatalf("Next: %d, %v; want %d of %d", next, ok, least, len(alarms))
	}
	if got := c.Now(); got != gone(past) {
		t.Fatalf("Now: %d, want %d", got, gone(past))
	}
}

// 23.1, 23.2, 23.3: what is told hangs on what was done without an error, and on how much time went by since then.
func TestPast(t *testing.T) {
	came := map[string]int{}
	for seed := range 120 {
		r := rand.New(rand.NewSource(int64(seed)))
		ids := []int{-1}
		for range []int{5, 40, 400}[r.Intn(3)] {
			ids = append(ids, r.Intn(1000)+1)
		}
		c := clock.New()
		var past []event
		if r.Intn(4) == 0 {
			past = append(past, event{what: 't', n: end - 40})
			c.Tick(end - 40)
		}
		for range 160 {
			e := event{what: "ssssssssdt"[r.Intn(10)], n: r.Intn(9)}
			if e.what != 't' {
				e.id = ids[r.Intn(len(ids))]
			}
			if r.Intn(20) == 0 {
				e.n = []int{-1, end + 1, end, end - 1}[r.Intn(4)]
			}
			if e.what == 't' && e.n > 9 && r.Intn(4) > 0 {
				e.n = 3
			}
			want := read(past, e)
			if got := send(c, e); got != want {
				t.Fatalf("%d: %c %d %d: %v, want %v", seed, e.what, e.id, e.n, got, want)
			}
			came[string(e.what)+" "+want.Error()]++
			if want == api.OK {
				past = append(past, e)
			}
			if r.Intn(8) == 0 {
				wantPast(t, c, past, ids)
			}
		}
		wantPast(t, c, past, ids)
	}
	if len(came) != 10 {
		t.Errorf("%v", came)
	}
	for what, many := range came {
		if many < 10 {
			t.Errorf("%s came only %d times", what, many)
		}
	}
}

// 23.3: in whichever order alarms are set, the same can be told.
func TestAnyOrder(t *testing.T) {
	r := rand.New(rand.NewSource(23))
	for range 200 {
		var sets []event
		for id := range 1 + r.Intn(12) {
			sets = append(sets, event{what: 's', id: id, n: r.Intn(5)})
		}
		one, other := clock.New(), clock.New()
		for _, e := range sets {
			send(one, e)
		}
		for _, i := range r.Perm(len(sets)) {
			send(other, sets[i])
		}
		for range 6 {
			ids := []int{0, 1, 2, 3, 4, 5, 6, 7, 8, 9, 10, 11}
			if shown(one, ids...) != shown(other, ids...) {
				t.Fatalf("%v: %s; %s", sets, shown(one, ids...), shown(other, ids...))
			}
			one.Tick(1)
			other.Tick(1)
		}
	}
}
