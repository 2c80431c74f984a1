// Package choice: which CPUs and which devices are taken within a mask.
package choice

import (
	"slices"

	"berth/api"
	"berth/masks"
)

// Devices takes of the free devices, listed by rising numbers, so many of the
// mask's nodes with the least numbers.
func Devices(devices []api.Device, free []int, mask masks.Mask, wanted int) []int {
	var taken []int
	for _, number := range free {
		if len(taken) < wanted && mask.Has(devices[number].Node) {
			taken = append(taken, number)
		}
	}
	return taken
}

// CPUs takes of the free CPUs so many of the mask's nodes: whole sockets, then
// whole cores, then one by one. They come by rising numbers.
func CPUs(cpus []api.CPU, free []int, mask masks.Mask, wanted int) []int {
	t := taker{cpus: cpus, open: make([]bool, len(cpus)), wanted: wanted}
	for _, number := range free {
		t.open[number] = mask.Has(cpus[number].Node)
	}
	t.takeWhole(api.MaxSockets, func(cpu api.CPU) int { return cpu.Socket })
	t.takeWhole(api.MaxCPUs, coreOf)
	t.takeSingly()
	slices.Sort(t.taken)
	return t.taken
}

func coreOf(cpu api.CPU) int { return cpu.Core }

// taker is a choice of CPUs under way.
type taker struct {
	cpus   []api.CPU
	open   []bool // of each CPU: whether it is free and lies in the mask's nodes
	wanted int    // how many are still to be taken
	taken  []int
}

func (t *taker) take(numbers ...int) {
	for _, number := range numbers {
		t.open[number] = false
	}
	t.wanted -= len(numbers)
	t.taken = append(t.taken, numbers...)
}

// takeWhole takes all CPUs of each place that is open as a whole and not too
// great. One pass is enough: as less is wanted, a place that was passed over
// will not do later.
func (t *taker) takeWhole(places int, placeOf func(api.CPU) int) {
	for place := range places {
		members := t.members(place, placeOf)
		if len(members) > 0 && len(members) <= t.wanted && t.allOpen(members) {
			t.take(members...)
		}
	}
}

func (t *taker) members(place int, placeOf func(api.CPU) int) []int {
	var numbers []int
	for number, cpu := range t.cpus {
		if placeOf(cpu) == place {
			numbers = append(numbers, number)
		}
	}
	return numbers
}

func (t *taker) allOpen(numbers []int) bool {
	for _, number := range numbers {
		if !t.open[number] {
			return false
		}
	}
	return true
}

func (t *taker) takeSingly() {
	for t.wanted > 0 {
		number, found := t.mostAlone()
		if !found {
			return
		}
		t.take(number)
	}
}

// mostAlone finds the open CPU whose core has the fewest open ones; of several
// such the one with the least number. A core lies in one node, so what is open
// of it is all that is free of it.
func (t *taker) mostAlone() (int, bool) {
	best, fewest, found := 0, 0, false
	for number, open := range t.open {
		if !open {
			continue
		}
		count := t.openOfCore(t.cpus[number].Core)
		if !found || count < fewest {
			best, fewest, found = number, count, true
		}
	}
	return best, found
}

func (t *taker) openOfCore(core int) int {
	count := 0
	for _, number := range t.members(core, coreOf) {
		if t.open[number] {
			count++
		}
	}
	return count
}
