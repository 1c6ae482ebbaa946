package tree

import "testing"

// P3: counting ends at its limits, even if kids lie in themselves.
func TestCountLimits(t *testing.T) {
	kids := make([]Elem, 3)
	for i := range kids {
		kids[i].Kids = kids
	}
	for _, c := range []struct{ levels, most, want int }{{1, 50, 1}, {2, 50, 4}, {3, 50, 13}, {4, 50, 40}, {5, 50, 50}, {mostLevels, 50, 50}, {mostLevels, 1 << 20, 1 << 20}} {
		if n := count(kids, c.levels, c.most); n != c.want {
			t.Errorf("count in %d levels, at the most %d: %d; want %d", c.levels, c.most, n, c.want)
		}
	}
	if n := depth(kids[0], 7); n != 7 {
		t.Errorf("depth of at the most 7: %d", n)
	}
}
