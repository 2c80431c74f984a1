package berth_test

import (
	"slices"
	"strings"
	"testing"

	"berth/api"
	"berth/berth"
)

// eight is the machine of the document's examples: two sockets with a node
// each, four CPUs in each, cores of two.
func eight(policy int, reserved ...int) api.Machine {
	m := api.Machine{Policy: policy, Reserved: reserved}
	for i := range 8 {
		m.CPUs = append(m.CPUs, api.CPU{Socket: i / 4, Node: i / 4, Core: i / 2})
	}
	return m
}

// spread is a machine with so many CPUs in each node, a core each.
func spread(counts ...int) api.Machine {
	var m api.Machine
	for node, count := range counts {
		for range count {
			m.CPUs = append(m.CPUs, api.CPU{Socket: node, Node: node, Core: len(m.CPUs)})
		}
	}
	return m
}

// healthyIn lists healthy devices, one in each of these nodes.
func healthyIn(nodes ...int) []api.Device {
	var devices []api.Device
	for _, node := range nodes {
		devices = append(devices, api.Device{Node: node, Healthy: true})
	}
	return devices
}

func start(t *testing.T, m api.Machine) *berth.Berth {
	t.Helper()
	b, errno := berth.Start(m)
	if b == nil || errno != api.OK {
		t.Fatalf("P3: Start(%v): %v, %d, want a berth", m, b, errno)
	}
	return b
}

func wantErrno(t *testing.T, what string, got, want api.Errno) {
	t.Helper()
	if got != want {
		t.Errorf("%s: %d, want %d", what, got, want)
	}
}

func register(t *testing.T, b *berth.Berth, kind int, devices []api.Device) {
	t.Helper()
	wantErrno(t, "P4: Register", b.Register(kind, devices), api.OK)
}

func grant(cpus []int, devices ...[]int) api.Grant {
	g := api.Grant{CPUs: cpus}
	copy(g.Devices[:], devices)
	return g
}

func need(cpus int, devices ...int) api.Need {
	n := api.Need{CPUs: cpus}
	copy(n.Devices[:], devices)
	return n
}

func sameGrant(a, b api.Grant) bool {
	same := slices.Equal(a.CPUs, b.CPUs)
	for kind := range a.Devices {
		same = same && slices.Equal(a.Devices[kind], b.Devices[kind])
	}
	return same
}

func wantFree(t *testing.T, what string, b *berth.Berth, want api.Grant) {
	t.Helper()
	if got := b.Free(); !sameGrant(got, want) {
		t.Errorf("%s: free is %v, want %v", what, got, want)
	}
}

func wantWidth(t *testing.T, b *berth.Berth, n api.Need, want [4]int) {
	t.Helper()
	if got := b.Width(n); got != want {
		t.Errorf("P7: Width(%v) is %v, want %v", n, got, want)
	}
}

// overwrite writes into a list and into its spare room.
func overwrite(list []int) {
	whole := list[:cap(list)]
	for i := range whole {
		whole[i] = -77
	}
}

// admit has a box admitted, and looks at what it is given.
func admit(t *testing.T, b *berth.Berth, name string, n api.Need, want api.Grant) {
	t.Helper()
	if got, errno := b.Admit(name, n); errno != api.OK || !sameGrant(got, want) {
		t.Errorf("P5: Admit(%q, %v): %v, %d, want %v", name, n, got, errno, want)
	}
}

func release(t *testing.T, b *berth.Berth, name string) {
	t.Helper()
	wantErrno(t, "P6: Release", b.Release(name), api.OK)
}

// refuse has a box refused, and looks whether anything has changed.
func refuse(t *testing.T, b *berth.Berth, name string, n api.Need, want api.Errno) {
	t.Helper()
	boxes, free, ops := b.Boxes(), b.Free(), b.Disk()
	got, errno := b.Admit(name, n)
	if errno != want || !sameGrant(got, api.Grant{}) {
		t.Errorf("P5: Admit(%q, %v): %v, %d, want %d", name, n, got, errno, want)
	}
	wantBoxes(t, "P1: after a refusal", b, boxes...)
	wantFree(t, "P1: after a refusal", b, free)
	if !slices.Equal(b.Disk(), ops) {
		t.Errorf("P1: after a refusal the disk is %v, ahead of it %v", b.Disk(), ops)
	}
}

func box(name string, g api.Grant) api.Box {
	return api.Box{Name: name, Grant: g}
}

func sameBoxes(a, b []api.Box) bool {
	return slices.EqualFunc(a, b, func(x, y api.Box) bool {
		return x.Name == y.Name && sameGrant(x.Grant, y.Grant)
	})
}

func wantBoxes(t *testing.T, what string, b *berth.Berth, want ...api.Box) {
	t.Helper()
	if got := b.Boxes(); !sameBoxes(got, want) {
		t.Errorf("%s: boxes are %v, want %v", what, got, want)
	}
}

// allNames are those that boxes have in these tests, in no order.
var allNames = []string{"b", "a", "d", "c", "\x00", "e\n\"", "ab", "é", strings.Repeat("\xff", api.MaxName)}

// restart makes a berth of files that can be believed.
func restart(t *testing.T, m api.Machine, files []api.File, running []string) *berth.Berth {
	t.Helper()
	b, damaged, errno := berth.Restart(m, files, running)
	if b == nil || damaged || errno != api.OK {
		t.Fatalf("P9: Restart with %v: %v, %d, want a berth and false", files, damaged, errno)
	}
	return b
}

// thoseOf lists the boxes whose names stand in a list.
func thoseOf(boxes []api.Box, names []string) []api.Box {
	var those []api.Box
	for _, box := range boxes {
		if slices.Contains(names, box.Name) {
			those = append(those, box)
		}
	}
	return those
}
