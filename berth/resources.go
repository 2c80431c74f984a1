package berth

import (
	"sync"

	"berth/api"
	"berth/machine"
	"berth/masks"
)

// The resources: the CPUs, then each kind of devices.
const (
	cpus = iota
	firstKind
	resources = firstKind + api.MaxKinds
)

// wantedOf tells how many of each resource the need names.
func wantedOf(need api.Need) [resources]int {
	var wanted [resources]int
	wanted[cpus] = need.CPUs
	for kind, number := range need.Devices {
		wanted[firstKind+kind] = number
	}
	return wanted
}

// leastWidths works out the least width of each resource that is asked for.
// Numbers above what Admit takes need no look of their own: no machine and no
// list has so many.
func (b *Berth) leastWidths(wanted [resources]int) [resources]int {
	widths := make([]int, resources)
	var workers sync.WaitGroup
	for resource, number := range wanted {
		if number <= 0 {
			continue
		}
		workers.Add(1)
		go func() {
			defer workers.Done()
			// No lock: each worker has a place of its own, and none writes to b.
			widths[resource] = b.counts(resource).LeastWidth(number)
		}()
	}
	workers.Wait()
	return [resources]int(widths)
}

// counts tells how many of a resource each node has, free or owned: what a
// resource's width hangs on is not changed by boxes.
func (b *Berth) counts(resource int) masks.Counts {
	var counts masks.Counts
	if resource == cpus {
		for _, number := range machine.Unreserved(b.machine) {
			counts[b.machine.CPUs[number].Node]++
		}
		return counts
	}
	devices := b.devices[resource-firstKind]
	for _, number := range b.healthy(resource - firstKind) {
		counts[devices[number].Node]++
	}
	return counts
}
