package sample_test

import (
	"math/rand"
	"reflect"
	"testing"

	"treenail/api"
	"treenail/net"
	"treenail/sample"
)

// Processes are right, of all kinds and sizes, and the same if the same is picked.
func TestNet(t *testing.T) {
	r, again := rand.New(rand.NewSource(1)), rand.New(rand.NewSource(1))
	var kinds [api.Catch + 1]int
	sizes := map[int]int{}
	loops := 0
	for range 3000 {
		n := sample.Net(r.Intn)
		if !reflect.DeepEqual(sample.Net(again.Intn), n) {
			t.Fatal("another process")
		}
		if rule, at := net.Check(n); rule != 0 {
			t.Fatalf("%v breaks rule %d at %d", n, rule, at)
		}
		if surplus(n) != 0 {
			t.Fatalf("%v: forks and joins differ", n)
		}
		for _, x := range n.Nodes {
			kinds[x.Kind]++
		}
		sizes[len(n.Nodes)]++
		if loop(n) {
			loops++
		}
	}
	for k, times := range kinds {
		if k > 0 && times < 1000 {
			t.Errorf("kind %d: %d times", k, times)
		}
	}
	for size := 3; size <= api.MaxNodes; size++ {
		if sizes[size] == 0 {
			t.Errorf("no process of %d nodes", size)
		}
	}
	if loops < 100 || loops > 2900 {
		t.Errorf("%d processes with a loop", loops)
	}
}

// Processes with crossed flows are right, and many are joined otherwise than they fork.
func TestCrossed(t *testing.T) {
	r, again := rand.New(rand.NewSource(2)), rand.New(rand.NewSource(2))
	uneven := 0
	for range 3000 {
		n := sample.Crossed(r.Intn)
		if !reflect.DeepEqual(sample.Crossed(again.Intn), n) {
			t.Fatal("another process")
		}
		if rule, at := net.Check(n); rule != 0 {
			t.Fatalf("%v breaks rule %d at %d", n, rule, at)
		}
		if surplus(n) != 0 {
			uneven++
		}
	}
	if uneven < 300 || uneven > 2700 {
		t.Errorf("%d processes whose forks and joins differ", uneven)
	}
}

// surplus is how many more ways Ands split to than they join: 0 of blocks that lie in one another.
func surplus(n api.Net) int {
	sum := 0
	for i, x := range n.Nodes {
		if x.Kind == api.And {
			sum += len(net.Outs(n, i)) - len(net.Ins(n, i))
		}
	}
	return sum
}

// loop tells whether a node leads to itself.
func loop(n api.Net) bool {
	for i := range n.Nodes {
		seen := make([]bool, len(n.Nodes))
		next := []int{i}
		for len(next) > 0 {
			x := next[0]
			next = next[1:]
			for _, f := range net.Outs(n, x) {
				to := n.Flows[f].To
				if to == i {
					return true
				}
				if !seen[to] {
					seen[to] = true
					next = append(next, to)
				}
			}
		}
	}
	return false
}
