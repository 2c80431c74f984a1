package berth

import (
	"errors"
	"slices"
	"strings"

	"berth/api"
	"berth/checkpoint"
	"berth/disk"
)

func isName(name string) bool {
	return len(name) >= 1 && len(name) <= api.MaxName
}

// find tells at which place of the boxes a name stands, or would stand, and
// whether it does.
func (b *Berth) find(name string) (int, bool) {
	return slices.BinarySearchFunc(b.boxes, name, func(box api.Box, name string) int {
		return strings.Compare(box.Name, name)
	})
}

// with lists the boxes and one more, at its place. The list is a new one, as the
// old one holds on if it can't be written.
func (b *Berth) with(place int, box api.Box) []api.Box {
	return slices.Insert(slices.Clone(b.boxes), place, box)
}

// without lists the boxes but for that at a place, in a new list.
func (b *Berth) without(place int) []api.Box {
	return slices.Delete(slices.Clone(b.boxes), place, place+1)
}

// change lets the boxes be these, as soon as that is written.
func (b *Berth) change(boxes []api.Box) api.Errno {
	err := b.disk.Replace(checkpoint.File, checkpoint.Text(boxes))
	if errors.Is(err, disk.ErrFailed) {
		return api.ErrDisk
	}
	b.boxes = boxes
	return api.OK
}

// copyGrant gives the same grant with lists of its own.
func copyGrant(grant api.Grant) api.Grant {
	grant.CPUs = slices.Clone(grant.CPUs)
	for kind, devices := range grant.Devices {
		grant.Devices[kind] = slices.Clone(devices)
	}
	return grant
}
