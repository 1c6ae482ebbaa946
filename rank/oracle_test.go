package rank_test

import (
	"math/rand"
	"slices"
	"testing"

	"treenail/api"
	"treenail/rank"
)

// graph is any graph of at most so many things.
func graph(r *rand.Rand, most int) (int, []rank.Edge) {
	n := r.Intn(most) + 1
	l := make([]rank.Edge, r.Intn(min(2*n+1, 256)))
	upward := r.Intn(2) == 0
	names := r.Perm(n)
	for i := range l {
		a, b := r.Intn(n), r.Intn(n)
		if upward && a == b {
			a, b = 0, n-1
		}
		if upward {
			a, b = min(a, b), max(a, b)
		}
		l[i] = rank.Edge{From: names[a], To: names[b]}
	}
	if upward && n == 1 {
		l = nil
	}
	return n, l
}

// ways tells from which thing one comes to which, over one edge or more: edges are drawn together over each thing in turn.
func ways(n int, l []rank.Edge) [64][64]bool {
	var w [64][64]bool
	for _, e := range l {
		w[e.From][e.To] = true
	}
	for over := range n {
		for a := range n {
			for b := range n {
				w[a][b] = w[a][b] || w[a][over] && w[over][b]
			}
		}
	}
	return w
}

func sift(n int, holds func(i int) bool) []int {
	var l []int
	for i := range n {
		if holds(i) {
			l = append(l, i)
		}
	}
	return l
}

// 9.1, 9.2: which are met, go round, and lie between.
func TestAnyGraphs(t *testing.T) {
	r := rand.New(rand.NewSource(9))
	rounds := 0
	for range 600 {
		n, l := graph(r, 64)
		given := slices.Clone(l)
		w := ways(n, l)
		meets := func(a, b int) bool { return a == b || w[a][b] }
		got, e := rank.Round(n, l)
		want(t, "Round", got, e, sift(n, func(i int) bool { return w[i][i] })...)
		if len(got) > 0 {
			rounds++
		}
		for range 10 {
			a, b := r.Intn(n), r.Intn(n)
			got, e = rank.Meets(n, l, a)
			want(t, "Meets", got, e, sift(n, func(i int) bool { return meets(a, i) })...)
			got, e = rank.Between(n, l, a, b)
			want(t, "Between", got, e, sift(n, func(i int) bool { return meets(a, i) && meets(i, b) })...)
		}
		order, e := rank.Order(n, l)
		wantOrder(t, n, l, order, e)
		if !slices.Equal(l, given) {
			t.Fatal("the edges were changed")
		}
	}
	if rounds < 100 || rounds > 500 {
		t.Errorf("something goes round in %d", rounds)
	}
}

// wantOrder asks for what follows: 9.3.
func wantOrder(t *testing.T, n int, l []rank.Edge, order []int, e api.Errno) {
	t.Helper()
	round, _ := rank.Round(n, l)
	if (len(round) > 0) != (e == api.ErrState) || e != api.OK && e != api.ErrState {
		t.Fatalf("%v: %v, though %v go round", l, e, round)
	}
	if e != api.OK {
		return
	}
	for _, x := range l {
		if slices.Index(order, x.From) >= slices.Index(order, x.To) {
			t.Fatalf("%v: %v", l, order)
		}
	}
	if all := slices.Sorted(slices.Values(order)); !slices.Equal(all, sift(n, func(int) bool { return true })) {
		t.Fatalf("%d: %v", n, order)
	}
}

// firstOrder is the first of all orders of what is left in which no edge leads back, in the order of a dictionary; nil, if there is none.
func firstOrder(l []rank.Edge, ahead, left []int) []int {
	for _, x := range l {
		from, to := slices.Index(ahead, x.From), slices.Index(ahead, x.To)
		if to >= 0 && (from < 0 || from >= to) {
			return nil
		}
	}
	if len(left) == 0 {
		return ahead
	}
	for i, x := range left {
		rest := append(slices.Clone(left[:i]), left[i+1:]...)
		if order := firstOrder(l, append(slices.Clone(ahead), x), rest); order != nil {
			return order
		}
	}
	return nil
}

// 9.2: the order is, of all that there are, the first one of a dictionary.
func TestFirstOrder(t *testing.T) {
	r := rand.New(rand.NewSource(10))
	found := 0
	for range 3000 {
		n, l := graph(r, 6)
		order, e := rank.Order(n, l)
		wanted := firstOrder(l, nil, sift(n, func(int) bool { return true }))
		if wanted == nil {
			wantErr(t, "Order", order, e, api.ErrState)
			continue
		}
		found++
		want(t, "Order", order, e, wanted...)
	}
	if found < 1000 || found > 2900 {
		t.Errorf("%d have an order", found)
	}
}

// R3, R6: neither the edges nor the room behind them are touched; the same is told again, in memory of its own.
func TestMemory(t *testing.T) {
	room := append(edges(0, 2, 2, 1, 3, 3), rank.Edge{From: 7, To: 7})
	l := room[:2]
	calls := []func() []int{
		func() []int { l, _ := rank.Meets(4, l, 0); return l },
		func() []int { l, _ := rank.Order(4, l); return l },
		func() []int { l, _ := rank.Between(4, l, 0, 1); return l },
		func() []int { l, _ := rank.Round(4, room[:3]); return l },
	}
	for i, call := range calls {
		a, b := call(), call()
		if len(a) == 0 || !slices.Equal(a, b) {
			t.Errorf("%d: %v, then %v", i, a, b)
		}
		again := slices.Clone(b)
		for j := range a[:cap(a)] {
			a[:cap(a)][j] = -7
		}
		if !slices.Equal(b, again) || !slices.Equal(call(), again) {
			t.Errorf("%d: memory is shared", i)
		}
	}
	if !slices.Equal(room, append(edges(0, 2, 2, 1, 3, 3), rank.Edge{From: 7, To: 7})) {
		t.Error("the edges were changed")
	}
}
