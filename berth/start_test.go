package berth_test

import (
	"slices"
	"testing"

	"berth/api"
	"berth/berth"
)

func TestStartIsEmpty(t *testing.T) {
	for policy := api.None; policy <= api.Single; policy++ {
		b := start(t, eight(policy))
		wantFree(t, "P3: no devices, no boxes", b, grant([]int{0, 1, 2, 3, 4, 5, 6, 7}))
		if len(b.Boxes()) != 0 || len(b.Disk()) != 0 {
			t.Errorf("P3: boxes %v, operations %v, want none", b.Boxes(), b.Disk())
		}
	}
}

func TestStartAtTheLimits(t *testing.T) {
	start(t, api.Machine{CPUs: make([]api.CPU, 1)})
	start(t, api.Machine{CPUs: []api.CPU{{Socket: api.MaxSockets - 1, Node: api.MaxNodes - 1, Core: api.MaxCPUs - 1}}})
	most := start(t, spread(6, 6, 6, 6))
	if got := len(most.Free().CPUs); got != api.MaxCPUs {
		t.Errorf("P7: %d CPUs free of %d", got, api.MaxCPUs)
	}
}

func TestStartNoMachine(t *testing.T) {
	split := eight(api.None)
	split.CPUs[1].Node = 1
	torn := eight(api.None)
	torn.CPUs[3].Socket = 1
	for what, m := range map[string]api.Machine{
		"no CPU":              {},
		"too many CPUs":       spread(7, 6, 6, 6),
		"no such socket":      spread(1, 1, 1, 1, 1),
		"a core in two nodes": split,
		"a node in two":       torn,
		"reserved above":      eight(api.None, 0, 8),
		"reserved below":      eight(api.None, -1),
		"reserved twice":      eight(api.None, 4, 4),
		"reserved falling":    eight(api.None, 4, 3),
		"policy above":        eight(api.Single + 1),
		"policy below":        eight(-1),
	} {
		b, errno := berth.Start(m)
		wantErrno(t, "P3: "+what, errno, api.ErrMachine)
		if b != nil {
			t.Errorf("P1: %s: a berth beside the error", what)
		}
	}
}

func TestReservedIsNotFree(t *testing.T) {
	wantFree(t, "P7: first and last reserved", start(t, eight(api.Single, 0, 7)), grant([]int{1, 2, 3, 4, 5, 6}))
	wantFree(t, "P7: all reserved", start(t, eight(api.None, 0, 1, 2, 3, 4, 5, 6, 7)), grant(nil))
}

// P2: neither the lists nor their spare room are written into, and none is kept.
func TestStartLeavesItsArgumentAlone(t *testing.T) {
	cpus := append(make([]api.CPU, 0, 12), eight(api.None).CPUs...)
	reserved := append(make([]int, 0, 6), 2, 5)
	wholeCPUs, wholeReserved := cpus[:cap(cpus)], reserved[:cap(reserved)]
	cpusAhead, reservedAhead := slices.Clone(wholeCPUs), slices.Clone(wholeReserved)

	b := start(t, api.Machine{CPUs: cpus, Reserved: reserved})
	b.Free()
	b.Width(need(3))
	if !slices.Equal(wholeCPUs, cpusAhead) || !slices.Equal(wholeReserved, reservedAhead) {
		t.Errorf("P2: written into: %v, %v", wholeCPUs, wholeReserved)
	}

	for i := range wholeCPUs {
		wholeCPUs[i] = api.CPU{Node: 3}
	}
	overwrite(reserved)
	wantFree(t, "P2: the machine's lists written over", b, grant([]int{0, 1, 3, 4, 6, 7}))
	wantWidth(t, b, need(4), [4]int{2})
}

func TestFreeIsNewMemory(t *testing.T) {
	b := start(t, eight(api.None))
	for kind := range api.MaxKinds {
		register(t, b, kind, healthyIn(0, 1, 1))
	}
	want := grant([]int{0, 1, 2, 3, 4, 5, 6, 7}, []int{0, 1, 2}, []int{0, 1, 2}, []int{0, 1, 2})
	first, second := b.Free(), b.Free()
	overwrite(first.CPUs)
	overwrite(first.Devices[1])
	if !sameGrant(second, want) {
		t.Errorf("P2: one answer changed with another: %v", second)
	}
	if !slices.Equal(first.Devices[0], want.Devices[0]) || !slices.Equal(first.Devices[2], want.Devices[2]) {
		t.Errorf("P2: lists of one answer share room: %v", first)
	}
	wantFree(t, "P2: the answer written over", b, want)
}

func TestBerthsAreApart(t *testing.T) {
	m := eight(api.None)
	a, b := start(t, m), start(t, m)
	devices := healthyIn(0, 1)
	register(t, a, 0, devices)
	wantFree(t, "P2: Register on the other berth", b, grant([]int{0, 1, 2, 3, 4, 5, 6, 7}))
	register(t, b, 0, devices)
	wantErrno(t, "P4: Health", a.Health(0, 0, false), api.OK)
	wantFree(t, "P2: Health on the other berth", b, grant([]int{0, 1, 2, 3, 4, 5, 6, 7}, []int{0, 1}))
}
