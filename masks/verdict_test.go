package masks

import (
	"testing"

	"berth/api"
)

// judged is a need of one resource: usable and free in each node.
func judged(usable, free Counts, wanted int) Verdicts {
	return Verdicts{Judge(usable, free, wanted)}
}

func wantMask(t *testing.T, what string, v Verdicts, policy int, want Mask) {
	t.Helper()
	got, found := v.Choose(policy)
	if got != want || found != (want != 0) {
		t.Errorf("P5: %s, policy %d: mask %d, %v, want %d", what, policy, got, found, want)
	}
}

// wantMasks tells the mask by each policy, 0 for none.
func wantMasks(t *testing.T, what string, v Verdicts, want [4]Mask) {
	t.Helper()
	for policy, mask := range want {
		wantMask(t, what, v, policy, mask)
	}
}

func TestChooseOfOneResource(t *testing.T) {
	full := Counts{4, 4}
	wantMasks(t, "all free", judged(full, full, 2), [4]Mask{All, 1, 1, 1})
	wantMasks(t, "as many as a node has", judged(full, full, 4), [4]Mask{All, 1, 1, 1})
	wantMasks(t, "one more", judged(full, full, 5), [4]Mask{All, 3, 3, 0})
	wantMasks(t, "all", judged(full, full, 8), [4]Mask{All, 3, 3, 0})
	wantMasks(t, "the second node", judged(full, Counts{1, 4}, 2), [4]Mask{All, 2, 2, 2})
	wantMasks(t, "room but for what is owned", judged(full, Counts{2, 2}, 3), [4]Mask{All, 3, 0, 0})
	wantMasks(t, "one too many", judged(full, Counts{2, 2}, 5), [4]Mask{})
	wantMasks(t, "none there", judged(Counts{}, Counts{}, 1), [4]Mask{})
	wantMasks(t, "by rising numbers", judged(Counts{1, 0, 1, 1}, Counts{1, 0, 1, 1}, 2), [4]Mask{All, 5, 5, 0})
	wantMasks(t, "width 4", judged(Counts{1, 1, 1, 1}, Counts{1, 1, 1, 1}, 4), [4]Mask{All, All, All, 0})
	wantMasks(t, "width ahead of number", judged(Counts{0, 1, 1, 2}, Counts{0, 1, 1, 2}, 2), [4]Mask{All, 8, 8, 8})
}

func TestChooseOfSeveral(t *testing.T) {
	near := Counts{4, 4}
	wantMasks(t, "both have the second node",
		Verdicts{Judge(near, near, 2), Judge(Counts{1, 2}, Counts{1, 2}, 2)}, [4]Mask{All, 2, 2, 2})
	wantMasks(t, "least widths that differ",
		Verdicts{Judge(near, near, 2), Judge(Counts{1, 1}, Counts{1, 1}, 2)}, [4]Mask{All, 3, 0, 0})
	wantMasks(t, "each in a node of its own",
		Verdicts{Judge(Counts{4}, Counts{4}, 1), Judge(Counts{0, 0, 3}, Counts{0, 0, 3}, 1)}, [4]Mask{All, 5, 0, 0})
	wantMasks(t, "one of them has too few",
		Verdicts{Judge(near, near, 1), Judge(near, Counts{1}, 2)}, [4]Mask{})
	wantMasks(t, "what is not asked for says nothing",
		Verdicts{{}, Judge(near, near, 5), {}}, [4]Mask{All, 3, 3, 0})
}

// A mask that fits need not be good, but a good one fits: by each policy, over
// all small machines, the mask is the first that the words allow.
func TestChooseOfAllSmallCounts(t *testing.T) {
	for n := range 3 * 3 * 3 * 3 {
		usable := Counts{n % 3, n / 3 % 3, n / 9 % 3, n / 27}
		for gone := Mask(0); gone <= All; gone++ {
			free := usable
			for node := range free {
				if gone.Has(node) {
					free[node] = 0
				}
			}
			for wanted := 1; wanted <= 8; wanted++ {
				checkChoice(t, usable, free, wanted)
			}
		}
	}
}

func checkChoice(t *testing.T, usable, free Counts, wanted int) {
	t.Helper()
	least := fewest(usable, wanted)
	var fits, good, single Mask
	for _, mask := range []Mask{1, 2, 4, 8, 3, 5, 6, 9, 10, 12, 7, 11, 13, 14, 15} {
		if free.Within(mask) < wanted {
			continue
		}
		if fits == 0 {
			fits = mask
		}
		if good == 0 && mask.Width() == least {
			good = mask
		}
		if single == 0 && mask.Width() == 1 {
			single = mask
		}
	}
	want := [4]Mask{api.BestEffort: good, api.Restricted: good, api.Single: single}
	if good == 0 {
		want[api.BestEffort] = fits
	}
	if free.Within(All) >= wanted {
		want[api.None] = All
	}
	wantMasks(t, "small counts", judged(usable, free, wanted), want)
}
