package masks

import "berth/api"

// Verdict is what one resource says of the masks. The zero Verdict is that of a
// resource that is not asked for: every mask fits, and no width is the least.
type Verdict struct {
	Least int // the least width, or NoMask; above 0 or NoMask if it is asked for
	fits  [All + 1]bool
}

// Judge is the verdict of a resource of which a number above 0 is wanted: usable
// is what of it lies in each node, free or owned; free what nobody owns.
func Judge(usable, free Counts, wanted int) Verdict {
	verdict := Verdict{Least: usable.LeastWidth(wanted)}
	for _, mask := range InOrder() {
		verdict.fits[mask] = free.Within(mask) >= wanted
	}
	return verdict
}

func (v Verdict) asked() bool { return v.Least != 0 }

// Verdicts are those of all resources.
type Verdicts []Verdict

// Fit tells whether a mask fits the need.
func (v Verdicts) Fit(mask Mask) bool {
	for _, verdict := range v {
		if verdict.asked() && !verdict.fits[mask] {
			return false
		}
	}
	return true
}

// good tells whether a mask fits and is as narrow as each resource could be.
func (v Verdicts) good(mask Mask) bool {
	for _, verdict := range v {
		if verdict.asked() && verdict.Least != mask.Width() {
			return false
		}
	}
	return v.Fit(mask)
}

func (v Verdicts) fitInOneNode(mask Mask) bool {
	return mask.Width() == 1 && v.Fit(mask)
}

// Choose finds the mask of the need by a policy, and tells whether there is one.
func (v Verdicts) Choose(policy int) (Mask, bool) {
	switch policy {
	case api.BestEffort:
		if mask, found := first(v.good); found {
			return mask, true
		}
		return first(v.Fit)
	case api.Restricted:
		return first(v.good)
	case api.Single:
		return first(v.fitInOneNode)
	}
	return first(func(mask Mask) bool { return mask == All && v.Fit(mask) })
}

// first finds the first mask, in their order, that will do.
func first(willDo func(Mask) bool) (Mask, bool) {
	for _, mask := range InOrder() {
		if willDo(mask) {
			return mask, true
		}
	}
	return 0, false
}
