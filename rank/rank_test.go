package rank_test

import (
	"math"
	"slices"
	"testing"

	"treenail/api"
	"treenail/rank"
)

// edges are those of pairs of numbers.
func edges(ends ...int) []rank.Edge {
	var l []rank.Edge
	for i := 0; i < len(ends); i += 2 {
		l = append(l, rank.Edge{From: ends[i], To: ends[i+1]})
	}
	return l
}

func want(t *testing.T, what string, got []int, e api.Errno, wanted ...int) {
	t.Helper()
	if e != api.OK || !slices.Equal(got, wanted) {
		t.Errorf("%s: %v, %v; want %v", what, got, e, wanted)
	}
}

func wantErr(t *testing.T, what string, got []int, e, wanted api.Errno) {
	t.Helper()
	if e != wanted || len(got) != 0 {
		t.Errorf("%s: %v, %v; want %v", what, got, e, wanted)
	}
}

// 9.1, 9.2: the chapter's example.
func TestExample(t *testing.T) {
	l, e := rank.Order(3, edges(0, 2, 2, 1))
	want(t, "Order", l, e, 0, 2, 1)
	l, e = rank.Round(3, edges(0, 2, 2, 1))
	want(t, "Round", l, e)
	l, e = rank.Round(3, edges(0, 2, 2, 1, 1, 0))
	want(t, "Round", l, e, 0, 1, 2)
	l, e = rank.Order(3, edges(0, 2, 2, 1, 1, 0))
	wantErr(t, "Order", l, e, api.ErrState)
}

// 9.1: what is wrong is told in this order: n, how many edges, their ends; by all functions, ahead of what else is wrong.
func TestCheck(t *testing.T) {
	wrong := rank.Edge{From: 99}
	many := func(count int, x rank.Edge) []rank.Edge { return slices.Repeat([]rank.Edge{x}, count) }
	for i, c := range []struct {
		n int
		l []rank.Edge
		e api.Errno
	}{
		{0, nil, api.OK}, {0, []rank.Edge{}, api.OK}, {1, edges(0, 0), api.OK}, {64, edges(63, 0, 0, 63), api.OK}, {1, many(256, rank.Edge{}), api.OK},
		{-1, nil, api.ErrArg}, {65, nil, api.ErrArg}, {math.MinInt, nil, api.ErrArg}, {math.MaxInt, nil, api.ErrArg},
		{1, many(257, rank.Edge{}), api.ErrLong}, {0, many(257, rank.Edge{}), api.ErrLong}, {0, edges(0, 0), api.ErrForm},
		{5, edges(0, 1, 5, 0), api.ErrForm}, {5, edges(0, 1, 0, 5), api.ErrForm}, {5, edges(-1, 0), api.ErrForm}, {5, edges(0, 1, 0, -1, 1, 2), api.ErrForm},
		{64, edges(64, 0), api.ErrForm}, {64, edges(0, 64), api.ErrForm}, {5, edges(math.MinInt, 0), api.ErrForm}, {5, edges(0, math.MaxInt), api.ErrForm},
		{-1, many(257, wrong), api.ErrArg}, {65, many(1, wrong), api.ErrArg}, {2, many(257, wrong), api.ErrLong}, {2, many(256, wrong), api.ErrForm},
	} {
		if e := rank.Check(c.n, c.l); e != c.e {
			t.Errorf("%d: Check: %v; want %v", i, e, c.e)
		}
		if c.e == api.OK {
			continue
		}
		l, e := rank.Meets(c.n, c.l, -1)
		wantErr(t, "Meets", l, e, c.e)
		l, e = rank.Meets(c.n, c.l, 0)
		wantErr(t, "Meets", l, e, c.e)
		l, e = rank.Round(c.n, c.l)
		wantErr(t, "Round", l, e, c.e)
		l, e = rank.Order(c.n, c.l)
		wantErr(t, "Order", l, e, c.e)
		l, e = rank.Between(c.n, c.l, -1, 99)
		wantErr(t, "Between", l, e, c.e)
		l, e = rank.Between(c.n, c.l, 0, 0)
		wantErr(t, "Between", l, e, c.e)
	}
}

// 9.1, 9.2: one that is no thing.
func TestNoThing(t *testing.T) {
	for _, n := range []int{0, 1, 5, 64} {
		for _, i := range []int{-1, n, n + 1, math.MinInt, math.MaxInt} {
			l, e := rank.Meets(n, nil, i)
			wantErr(t, "Meets", l, e, api.ErrNone)
			for _, j := range []int{0, n - 1, i} {
				l, e = rank.Between(n, nil, i, j)
				wantErr(t, "Between", l, e, api.ErrNone)
				l, e = rank.Between(n, nil, j, i)
				wantErr(t, "Between", l, e, api.ErrNone)
			}
		}
	}
}

// 9.1: one meets itself over no edge at all, but goes round over one at least.
func TestItself(t *testing.T) {
	l, e := rank.Meets(1, nil, 0)
	want(t, "Meets", l, e, 0)
	l, e = rank.Round(1, nil)
	want(t, "Round", l, e)
	l, e = rank.Between(1, nil, 0, 0)
	want(t, "Between", l, e, 0)
	l, e = rank.Order(1, nil)
	want(t, "Order", l, e, 0)
	l, e = rank.Round(3, edges(1, 1, 1, 2))
	want(t, "Round", l, e, 1)
	l, e = rank.Order(3, edges(1, 1, 1, 2))
	wantErr(t, "Order", l, e, api.ErrState)
	l, e = rank.Between(3, edges(1, 1, 1, 2), 1, 1)
	want(t, "Between", l, e, 1)
}

// 9.1, 9.2: no thing, and all that there may be.
func TestHowMany(t *testing.T) {
	l, e := rank.Round(0, nil)
	want(t, "Round", l, e)
	l, e = rank.Order(0, nil)
	want(t, "Order", l, e)
	var down, up, all []int
	var chain []rank.Edge
	for i := range 64 {
		down, up = append(down, 63-i), append(up, i)
		if i > 0 {
			chain = append(chain, rank.Edge{From: i, To: i - 1}, rank.Edge{From: i, To: i - 1}, rank.Edge{From: i, To: 0})
		}
	}
	l, e = rank.Order(64, chain)
	want(t, "Order", l, e, down...)
	l, e = rank.Meets(64, chain, 63)
	want(t, "Meets", l, e, up...)
	l, e = rank.Meets(64, chain, 0)
	want(t, "Meets", l, e, 0)
	l, e = rank.Round(64, chain)
	want(t, "Round", l, e, all...)
	l, e = rank.Round(64, append(chain, rank.Edge{From: 0, To: 63}))
	want(t, "Round", l, e, up...)
	l, e = rank.Between(64, chain, 40, 38)
	want(t, "Between", l, e, 38, 39, 40)
	l, e = rank.Between(64, chain, 38, 40)
	want(t, "Between", l, e)
	l, e = rank.Order(64, nil)
	want(t, "Order", l, e, up...)
}

// 9.2: what is behind a round is not taken, even if it does not go round itself.
func TestBehindRound(t *testing.T) {
	l, e := rank.Order(4, edges(1, 2, 2, 1, 2, 3))
	wantErr(t, "Order", l, e, api.ErrState)
	l, e = rank.Round(4, edges(1, 2, 2, 1, 2, 3))
	want(t, "Round", l, e, 1, 2)
	l, e = rank.Between(4, edges(1, 2, 2, 1, 2, 3), 1, 3)
	want(t, "Between", l, e, 1, 2, 3)
	l, e = rank.Order(4, edges(1, 2, 2, 3))
	want(t, "Order", l, e, 0, 1, 2, 3)
	// 3 is free only behind 2, and the lesser 0 only behind 3; then 0 comes ahead of 4, which was free all the time.
	l, e = rank.Order(5, edges(2, 3, 3, 0))
	want(t, "Order", l, e, 1, 2, 3, 0, 4)
}
