package masks

import (
	"math"
	"slices"
	"testing"

	"berth/api"
)

func TestInOrder(t *testing.T) {
	want := []Mask{1, 2, 4, 8, 3, 5, 6, 9, 10, 12, 7, 11, 13, 14, 15}
	if got := InOrder(); !slices.Equal(got, want) {
		t.Errorf("masks in order: %v, want %v", got, want)
	}
}

func TestMaskHas(t *testing.T) {
	for mask := Mask(0); mask <= All; mask++ {
		number, width := Mask(0), 0
		for node := range api.MaxNodes {
			if mask.Has(node) {
				number += 1 << node
				width++
			}
		}
		if number != mask || width != mask.Width() {
			t.Errorf("mask %d: its nodes make %d, of width %d; its Width is %d", mask, number, width, mask.Width())
		}
	}
	for _, node := range []int{math.MinInt, -1, api.MaxNodes, 64, math.MaxInt} {
		if All.Has(node) {
			t.Errorf("the mask of all nodes has a node %d", node)
		}
	}
}

func TestWithin(t *testing.T) {
	counts := Counts{1, 20, 300, 4000}
	for mask, want := range map[Mask]int{1: 1, 2: 20, 4: 300, 8: 4000, 5: 301, 10: 4020, 14: 4320, 15: 4321} {
		if got := counts.Within(mask); got != want {
			t.Errorf("within mask %d of %v: %d, want %d", mask, counts, got, want)
		}
	}
}

// fewest is the least number of nodes by another way: the fullest nodes first.
func fewest(counts Counts, wanted int) int {
	sorted := counts
	slices.Sort(sorted[:])
	sum := 0
	for i := range sorted {
		sum += sorted[len(sorted)-1-i]
		if sum >= wanted {
			return i + 1
		}
	}
	return NoMask
}

func TestLeastWidthOfAllSmallCounts(t *testing.T) {
	for n := range 4 * 4 * 4 * 4 {
		counts := Counts{n % 4, n / 4 % 4, n / 16 % 4, n / 64}
		for wanted := 1; wanted <= 13; wanted++ {
			if got, want := counts.LeastWidth(wanted), fewest(counts, wanted); got != want {
				t.Errorf("P7: least width of %d among %v: %d, want %d", wanted, counts, got, want)
			}
		}
	}
}

func TestLeastWidthAtTheEnds(t *testing.T) {
	for _, c := range []struct {
		counts       Counts
		wanted, want int
	}{
		{Counts{}, 1, NoMask},
		{Counts{0, 0, 0, 1}, 1, 1},
		{Counts{6, 6, 6, 6}, 24, 4},
		{Counts{6, 6, 6, 6}, 25, NoMask},
		{Counts{24}, 24, 1},
		{Counts{24}, math.MaxInt, NoMask},
	} {
		if got := c.counts.LeastWidth(c.wanted); got != c.want {
			t.Errorf("P7: least width of %d among %v: %d, want %d", c.wanted, c.counts, got, c.want)
		}
	}
}
