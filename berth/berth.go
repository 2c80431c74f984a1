// Package berth: processors and devices for boxes, by nodes: see DOC.md.
package berth

import (
	"slices"
	"strings"

	"berth/api"
	"berth/disk"
	"berth/machine"
)

// Berth gives out what a machine has.
type Berth struct {
	machine api.Machine
	devices [api.MaxKinds][]api.Device
	boxes   []api.Box // by their names
	disk    disk.Disk
}

// Start makes a berth with an empty disk (P3).
func Start(m api.Machine) (*Berth, api.Errno) {
	if !machine.Valid(m) {
		return nil, api.ErrMachine
	}
	return &Berth{machine: machine.Copy(m)}, api.OK
}

// Restart makes a berth out of what a disk holds; the second result tells that
// this can't be believed (P9, P10).
func Restart(m api.Machine, files []api.File, running []string) (*Berth, bool, api.Errno) {
	b, errno := Start(m)
	if errno != api.OK {
		return nil, false, errno
	}
	boxes, believed := b.recall(files)
	if !believed {
		return b, true, api.OK
	}
	b.boxes = boxes
	if kept := runningOf(boxes, running); len(kept) < len(boxes) {
		// This can't fail: nobody has called FailAt of b yet.
		b.change(kept)
	}
	return b, false, api.OK
}

// Register tells which devices of a kind there are (P4).
func (b *Berth) Register(kind int, devices []api.Device) api.Errno {
	if !isKind(kind) {
		return api.ErrKind
	}
	if len(devices) > api.MaxDevices {
		return api.ErrMany
	}
	for _, device := range devices {
		if !machine.IsNode(device.Node) {
			return api.ErrDevice
		}
	}
	b.devices[kind] = slices.Clone(devices)
	return api.OK
}

// Health tells whether a device is healthy (P4).
func (b *Berth) Health(kind int, device int, healthy bool) api.Errno {
	if !isKind(kind) {
		return api.ErrKind
	}
	if device < 0 || device >= len(b.devices[kind]) {
		return api.ErrDevice
	}
	b.devices[kind][device].Healthy = healthy
	return api.OK
}

func isKind(number int) bool {
	return number >= 0 && number < api.MaxKinds
}

// Admit gives a box what it needs (P5).
func (b *Berth) Admit(name string, need api.Need) (api.Grant, api.Errno) {
	place, there := b.find(name)
	wanted := wantedOf(need)
	switch {
	case !isName(name):
		return api.Grant{}, api.ErrName
	case there:
		return api.Grant{}, api.ErrTwice
	case !mayBeWanted(wanted):
		return api.Grant{}, api.ErrNeed
	case len(b.boxes) >= api.MaxBoxes:
		return api.Grant{}, api.ErrMany
	}
	grant, errno := b.choose(wanted)
	if errno != api.OK {
		return api.Grant{}, errno
	}
	// The name may be a piece of a long text, which is not to be kept with it.
	box := api.Box{Name: strings.Clone(name), Grant: grant}
	if errno := b.change(b.with(place, box)); errno != api.OK {
		return api.Grant{}, errno
	}
	return copyGrant(grant), api.OK
}

// Release takes a box away (P6).
func (b *Berth) Release(name string) api.Errno {
	place, there := b.find(name)
	if !there {
		return api.ErrNone
	}
	return b.change(b.without(place))
}

// FailAt lets a disk operation fail (P8).
func (b *Berth) FailAt(n int) { b.disk.FailAt(n) }

// Boxes lists the boxes (P7).
func (b *Berth) Boxes() []api.Box {
	boxes := slices.Clone(b.boxes)
	for i := range boxes {
		boxes[i].Grant = copyGrant(boxes[i].Grant)
	}
	return boxes
}

// Free tells what is free (P7).
func (b *Berth) Free() api.Grant {
	free := api.Grant{CPUs: b.free(cpus)}
	for kind := range b.devices {
		free.Devices[kind] = b.free(firstKind + kind)
	}
	return free
}

// Width tells how many nodes each resource of a need takes at the least (P7).
func (b *Berth) Width(need api.Need) [4]int {
	var widths [resources]int
	for resource, verdict := range b.judge(wantedOf(need)) {
		widths[resource] = verdict.Least
	}
	return widths
}

// Disk lists the operations that were done (P8).
func (b *Berth) Disk() []api.Op { return b.disk.Done() }
