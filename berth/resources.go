package berth

import (
	"slices"
	"sync"

	"berth/api"
	"berth/choice"
	"berth/machine"
	"berth/masks"
)

// The resources: the CPUs, then each kind of devices.
const (
	cpus = iota
	firstKind
	resources = firstKind + api.MaxKinds
)

// wantedOf tells how many of each resource the need names.
func wantedOf(need api.Need) [resources]int {
	var wanted [resources]int
	wanted[cpus] = need.CPUs
	for kind, number := range need.Devices {
		wanted[firstKind+kind] = number
	}
	return wanted
}

// mayBeWanted tells whether a box may want so much: of each resource no more
// than there can be, and not nothing at all.
func mayBeWanted(wanted [resources]int) bool {
	asks := false
	for resource, number := range wanted {
		if number < 0 || number > mostOf(resource) {
			return false
		}
		asks = asks || number > 0
	}
	return asks
}

func mostOf(resource int) int {
	if resource == cpus {
		return api.MaxCPUs
	}
	return api.MaxDevices
}

// choose finds what a box gets that wants so much.
func (b *Berth) choose(wanted [resources]int) (api.Grant, api.Errno) {
	verdicts := b.judge(wanted)
	if !verdicts.Fit(masks.All) {
		return api.Grant{}, api.ErrFew
	}
	mask, found := verdicts.Choose(b.machine.Policy)
	if !found {
		return api.Grant{}, api.ErrNode
	}
	return b.within(mask, wanted), api.OK
}

// judge lets each resource that is asked for say what it does of the masks.
// Numbers above what Admit takes need no look of their own: no machine and no
// list has so many.
func (b *Berth) judge(wanted [resources]int) masks.Verdicts {
	verdicts := make(masks.Verdicts, resources)
	var workers sync.WaitGroup
	for resource, number := range wanted {
		if number <= 0 {
			continue
		}
		workers.Add(1)
		go func() {
			defer workers.Done()
			// No lock: each worker has a place of its own, and none writes to b.
			usable := b.byNode(resource, b.usable(resource))
			free := b.byNode(resource, b.free(resource))
			verdicts[resource] = masks.Judge(usable, free, number)
		}()
	}
	workers.Wait()
	return verdicts
}

// within takes what is wanted in the mask's nodes.
func (b *Berth) within(mask masks.Mask, wanted [resources]int) api.Grant {
	grant := api.Grant{CPUs: choice.CPUs(b.machine.CPUs, b.free(cpus), mask, wanted[cpus])}
	for kind, devices := range b.devices {
		free := b.free(firstKind + kind)
		grant.Devices[kind] = choice.Devices(devices, free, mask, wanted[firstKind+kind])
	}
	return grant
}

// usable lists what of a resource boxes may be given, free or owned, by rising
// numbers.
func (b *Berth) usable(resource int) []int {
	if resource == cpus {
		return machine.Unreserved(b.machine)
	}
	var numbers []int
	for number, device := range b.devices[resource-firstKind] {
		if device.Healthy {
			numbers = append(numbers, number)
		}
	}
	return numbers
}

// free lists what of a resource is free, by rising numbers.
func (b *Berth) free(resource int) []int {
	return slices.DeleteFunc(b.usable(resource), func(number int) bool {
		return b.isOwned(resource, number)
	})
}

func (b *Berth) isOwned(resource, number int) bool {
	return slices.ContainsFunc(b.boxes, func(box api.Box) bool {
		return slices.Contains(owned(box.Grant, resource), number)
	})
}

// owned lists what a grant has of a resource.
func owned(grant api.Grant, resource int) []int {
	if resource == cpus {
		return grant.CPUs
	}
	return grant.Devices[resource-firstKind]
}

// byNode tells how many of these numbers of a resource lie in each node.
func (b *Berth) byNode(resource int, numbers []int) masks.Counts {
	var counts masks.Counts
	for _, number := range numbers {
		counts[b.nodeOf(resource, number)]++
	}
	return counts
}

func (b *Berth) nodeOf(resource, number int) int {
	if resource == cpus {
		return b.machine.CPUs[number].Node
	}
	return b.devices[resource-firstKind][number].Node
}
