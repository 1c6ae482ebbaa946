package span_test

import (
	"math"
	"slices"
	"testing"

	"treenail/span"
)

func TestUpto(t *testing.T) {
	for _, c := range []struct {
		most    int
		numbers []int
		want    bool
	}{
		{0, nil, true}, {0, []int{0, 0}, true}, {0, []int{0, 1}, false}, {3, []int{0, 1, 2, 3}, true}, {3, []int{4}, false}, {3, []int{0, -1, 3}, false},
		{3, []int{math.MinInt}, false}, {3, []int{math.MaxInt, 0}, false},
	} {
		if got := span.Upto(c.most, c.numbers...); got != c.want {
			t.Errorf("Upto(%d, %v): %v", c.most, c.numbers, got)
		}
	}
}

func TestFilled(t *testing.T) {
	numbers := []int{3, 0, 1, 0, 0}
	for count := range len(numbers) + 1 {
		for most := range 5 {
			want := count >= 3 && most >= 3
			if got := span.Filled(numbers, count, most); got != want {
				t.Errorf("Filled(%v, %d, %d): %v", numbers, count, most, got)
			}
		}
	}
	if !slices.Equal(numbers, []int{3, 0, 1, 0, 0}) {
		t.Errorf("%v", numbers)
	}
	for at := range numbers {
		for _, k := range []int{-1, 4, math.MinInt, math.MaxInt} {
			wrong := slices.Clone(numbers)
			wrong[at] = k
			if span.Filled(wrong, 3, 3) {
				t.Errorf("Filled(%v)", wrong)
			}
		}
	}
}
