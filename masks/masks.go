// Package masks: sets of nodes, their order, what resources say of them, and the
// one that a policy takes.
package masks

import (
	"math/bits"

	"berth/api"
)

// Mask is a set of nodes, as the sum of 2 to the n for each of its nodes n.
type Mask uint

// NoMask is the answer where no mask has enough: no width, as a mask has a node.
const NoMask = -1

// All is the mask of all nodes.
const All Mask = 1<<api.MaxNodes - 1

// Has tells whether a node is one of the mask's.
func (m Mask) Has(node int) bool {
	// A shift by a number below 0 would panic; as a uint it only shifts all out.
	return m>>uint(node)&1 == 1
}

// Width tells how many nodes the mask has.
func (m Mask) Width() int {
	return bits.OnesCount(uint(m))
}

// InOrder lists every mask, by rising width, those of one width by rising
// numbers.
func InOrder() []Mask {
	var masks []Mask
	for width := 1; width <= api.MaxNodes; width++ {
		for mask := Mask(1); mask <= All; mask++ {
			if mask.Width() == width {
				masks = append(masks, mask)
			}
		}
	}
	return masks
}

// Counts tells how many things of one resource lie in each node.
type Counts [api.MaxNodes]int

// Within tells how many lie in the mask's nodes together.
func (c Counts) Within(mask Mask) int {
	sum := 0
	for node, count := range c {
		if mask.Has(node) {
			sum += count
		}
	}
	return sum
}

// LeastWidth is the least width of a mask within which there are as many as
// wanted, or NoMask.
func (c Counts) LeastWidth(wanted int) int {
	for _, mask := range InOrder() {
		if c.Within(mask) >= wanted {
			return mask.Width()
		}
	}
	return NoMask
}
