package choice

import (
	"math/rand/v2"
	"slices"
	"testing"

	"berth/api"
	"berth/masks"
)

// eight is the machine of the document's examples.
func eight() []api.CPU {
	var cpus []api.CPU
	for i := range 8 {
		cpus = append(cpus, api.CPU{Socket: i / 4, Node: i / 4, Core: i / 2})
	}
	return cpus
}

// on lists CPUs of one node and these cores.
func on(cores ...int) []api.CPU {
	var cpus []api.CPU
	for _, core := range cores {
		cpus = append(cpus, api.CPU{Core: core})
	}
	return cpus
}

func numbers(list ...int) []int { return list }

func TestCPUs(t *testing.T) {
	twoNodes := []api.CPU{{Socket: 2, Node: 0, Core: 0}, {Socket: 2, Node: 1, Core: 1}, {Socket: 0, Node: 2, Core: 2}, {Socket: 0, Node: 2, Core: 2}}
	for _, c := range []struct {
		what   string
		cpus   []api.CPU
		free   []int
		mask   masks.Mask
		wanted int
		want   []int
	}{
		{"a socket, then one", eight(), numbers(0, 1, 2, 3, 4, 5, 6, 7), masks.All, 5, numbers(0, 1, 2, 3, 4)},
		{"a core, then of a core that is begun", eight(), numbers(1, 2, 3, 4, 5, 6, 7), masks.All, 3, numbers(1, 2, 3)},
		{"all", eight(), numbers(0, 1, 2, 3, 4, 5, 6, 7), masks.All, 8, numbers(0, 1, 2, 3, 4, 5, 6, 7)},
		{"none", eight(), numbers(0, 1, 2, 3, 4, 5, 6, 7), masks.All, 0, nil},
		{"a whole socket ahead of a torn one", eight(), numbers(0, 1, 2, 4, 5, 6, 7), masks.All, 4, numbers(4, 5, 6, 7)},
		{"only the mask's nodes", eight(), numbers(0, 1, 2, 3, 4, 5, 6, 7), 2, 3, numbers(4, 5, 6)},
		{"a socket that the mask has in part", twoNodes, numbers(0, 1, 2, 3), 1 | 4, 2, numbers(2, 3)},
		{"that socket is not whole", twoNodes, numbers(0, 1, 2, 3), 1 | 4, 3, numbers(0, 2, 3)},
		{"the socket of the least number, not of the first CPU", twoNodes, numbers(0, 1, 2, 3), masks.All, 2, numbers(2, 3)},
		{"the core of the least number", on(7, 3, 7, 3), numbers(0, 1, 2, 3), masks.All, 2, numbers(1, 3)},
		{"a core too great", on(0, 0, 0, 1, 1), numbers(0, 1, 2, 3, 4), masks.All, 2, numbers(3, 4)},
		{"one by one of the core with the fewest free", on(0, 0, 0, 1, 1), numbers(0, 1, 2, 3, 4), masks.All, 1, numbers(3)},
		{"of several such the least CPU", on(9, 4, 9, 4), numbers(0, 1, 2, 3), masks.All, 1, numbers(0)},
		{"what was taken is not free", on(0, 1, 0, 1, 0, 1), numbers(0, 1, 2, 3, 4, 5), masks.All, 2, numbers(0, 2)},
		{"a core that is owned in part is not whole", on(0, 0, 1, 1), numbers(0, 2, 3), masks.All, 2, numbers(2, 3)},
		{"fewer than wanted", eight(), numbers(6), masks.All, 3, numbers(6)},
	} {
		if got := CPUs(c.cpus, c.free, c.mask, c.wanted); !slices.Equal(got, c.want) {
			t.Errorf("P5: CPUs, %s: %v, want %v", c.what, got, c.want)
		}
	}
}

func TestDevices(t *testing.T) {
	devices := []api.Device{{Node: 1}, {Node: 0}, {Node: 1}, {Node: 3}, {Node: 1}}
	for _, c := range []struct {
		free   []int
		mask   masks.Mask
		wanted int
		want   []int
	}{
		{numbers(0, 1, 2, 3, 4), masks.All, 3, numbers(0, 1, 2)},
		{numbers(1, 3, 4), masks.All, 2, numbers(1, 3)},
		{numbers(0, 1, 2, 3, 4), 2, 2, numbers(0, 2)},
		{numbers(0, 1, 2, 3, 4), 2 | 8, 4, numbers(0, 2, 3, 4)},
		{numbers(0, 1, 2, 3, 4), masks.All, 0, nil},
		{nil, masks.All, 1, nil},
	} {
		if got := Devices(devices, c.free, c.mask, c.wanted); !slices.Equal(got, c.want) {
			t.Errorf("P5: of %v in mask %d, %d devices: %v, want %v", c.free, c.mask, c.wanted, got, c.want)
		}
	}
}

// byTheWords takes CPUs as the document words it, with every "as long as there
// is" looked at anew.
func byTheWords(cpus []api.CPU, free []int, mask masks.Mask, wanted int) []int {
	isFree := map[int]bool{}
	for _, number := range free {
		isFree[number] = true
	}
	var taken []int
	take := func(list []int) {
		for _, number := range list {
			isFree[number] = false
			taken = append(taken, number)
		}
	}
	whole := func(placeOf func(api.CPU) int) []int {
		for place := range api.MaxCPUs {
			var all []int
			will := true
			for number, cpu := range cpus {
				if placeOf(cpu) == place {
					all = append(all, number)
					will = will && isFree[number] && mask.Has(cpu.Node)
				}
			}
			if len(all) > 0 && will && len(all) <= wanted-len(taken) {
				return all
			}
		}
		return nil
	}
	for list := whole(func(c api.CPU) int { return c.Socket }); list != nil; list = whole(func(c api.CPU) int { return c.Socket }) {
		take(list)
	}
	for list := whole(func(c api.CPU) int { return c.Core }); list != nil; list = whole(func(c api.CPU) int { return c.Core }) {
		take(list)
	}
	for len(taken) < wanted {
		freeOf := map[int]int{}
		for number, cpu := range cpus {
			if isFree[number] {
				freeOf[cpu.Core]++
			}
		}
		best := -1
		for number, cpu := range cpus {
			if isFree[number] && mask.Has(cpu.Node) && (best < 0 || freeOf[cpu.Core] < freeOf[cpus[best].Core]) {
				best = number
			}
		}
		take([]int{best})
	}
	slices.Sort(taken)
	return taken
}

// anyCPUs makes CPUs whose cores lie in one node each, and nodes in one socket.
func anyCPUs(r *rand.Rand) []api.CPU {
	var socketOf [api.MaxNodes]int
	for node := range socketOf {
		socketOf[node] = r.IntN(api.MaxSockets)
	}
	var nodeOf [api.MaxCPUs]int
	for core := range nodeOf {
		nodeOf[core] = r.IntN(api.MaxNodes)
	}
	cores := 1 + r.IntN(api.MaxCPUs)
	cpus := make([]api.CPU, 1+r.IntN(api.MaxCPUs))
	for i := range cpus {
		core := r.IntN(cores)
		cpus[i] = api.CPU{Socket: socketOf[nodeOf[core]], Node: nodeOf[core], Core: core}
	}
	return cpus
}

func TestCPUsOfManyMachines(t *testing.T) {
	r := rand.New(rand.NewPCG(1, 2))
	for range 20000 {
		cpus := anyCPUs(r)
		mask := 1 + masks.Mask(r.UintN(uint(masks.All)))
		var free []int
		there := 0
		for number, cpu := range cpus {
			if r.IntN(4) > 0 {
				free = append(free, number)
				if mask.Has(cpu.Node) {
					there++
				}
			}
		}
		freeAhead := slices.Clone(free)
		wanted := r.IntN(there + 1)
		got, want := CPUs(cpus, free, mask, wanted), byTheWords(cpus, free, mask, wanted)
		if !slices.Equal(got, want) {
			t.Fatalf("P5: of %v, free %v, mask %d, %d CPUs: %v, want %v", cpus, free, mask, wanted, got, want)
		}
		if !slices.Equal(free, freeAhead) {
			t.Fatalf("the list of the free was written into")
		}
	}
}
