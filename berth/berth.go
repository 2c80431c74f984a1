// Package berth: processors and devices for boxes, by nodes: see DOC.md.
package berth

import (
	"slices"

	"berth/api"
	"berth/machine"
)

// Berth gives out what a machine has.
type Berth struct {
	machine api.Machine
	devices [api.MaxKinds][]api.Device
}

// Start makes a berth with an empty disk (P3).
func Start(m api.Machine) (*Berth, api.Errno) {
	if !machine.Valid(m) {
		return nil, api.ErrMachine
	}
	return &Berth{machine: machine.Copy(m)}, api.OK
}

// Restart makes a berth out of what a disk holds (P9, P10).
func Restart(m api.Machine, files []api.File, running []string) (*Berth, bool, api.Errno) {
	return nil, false, api.OK
}

// Register tells which devices of a kind there are (P4).
func (b *Berth) Register(kind int, devices []api.Device) api.Errno {
	if !isKind(kind) {
		return api.ErrKind
	}
	if len(devices) > api.MaxDevices {
		return api.ErrMany
	}
	for _, device := range devices {
		if !machine.IsNode(device.Node) {
			return api.ErrDevice
		}
	}
	b.devices[kind] = slices.Clone(devices)
	return api.OK
}

// Health tells whether a device is healthy (P4).
func (b *Berth) Health(kind int, device int, healthy bool) api.Errno {
	if !isKind(kind) {
		return api.ErrKind
	}
	if device < 0 || device >= len(b.devices[kind]) {
		return api.ErrDevice
	}
	b.devices[kind][device].Healthy = healthy
	return api.OK
}

func isKind(number int) bool {
	return number >= 0 && number < api.MaxKinds
}

// Admit gives a box what it needs (P5).
func (b *Berth) Admit(name string, need api.Need) (api.Grant, api.Errno) {
	return api.Grant{}, api.OK
}

// Release takes a box away (P6).
func (b *Berth) Release(name string) api.Errno { return api.OK }

// FailAt lets a disk operation fail (P8).
func (b *Berth) FailAt(n int) {}

// Boxes lists the boxes (P7).
func (b *Berth) Boxes() []api.Box { return nil }

// Free tells what is free (P7).
func (b *Berth) Free() api.Grant {
	free := api.Grant{CPUs: machine.Unreserved(b.machine)}
	for kind := range b.devices {
		free.Devices[kind] = b.healthy(kind)
	}
	return free
}

// healthy lists the devices of a kind that may be given, by rising numbers.
func (b *Berth) healthy(kind int) []int {
	var numbers []int
	for number, device := range b.devices[kind] {
		if device.Healthy {
			numbers = append(numbers, number)
		}
	}
	return numbers
}

// Width tells how many nodes each resource of a need takes at the least (P7).
func (b *Berth) Width(need api.Need) [4]int {
	return b.leastWidths(wantedOf(need))
}

// Disk lists the operations that were done (P8).
func (b *Berth) Disk() []api.Op { return nil }
