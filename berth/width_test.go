package berth_test

import (
	"math"
	"slices"
	"sync"
	"testing"

	"berth/api"
)

func TestWidthOfTheExamples(t *testing.T) {
	for policy := api.None; policy <= api.Single; policy++ {
		b := start(t, eight(policy))
		register(t, b, 0, healthyIn(0, 1, 1))
		wantWidth(t, b, need(2, 2), [4]int{1, 1, 0, 0})
		wantErrno(t, "P4: Health", b.Health(0, 1, false), api.OK)
		wantWidth(t, b, need(2, 2), [4]int{1, 2, 0, 0})
		wantErrno(t, "P4: Health", b.Health(0, 1, true), api.OK)
		wantWidth(t, b, need(2, 2), [4]int{1, 1, 0, 0})
	}
}

func TestWidthOfCPUs(t *testing.T) {
	b := start(t, eight(api.None))
	for _, c := range []struct{ cpus, want int }{
		{1, 1}, {4, 1}, {5, 2}, {8, 2}, {9, -1}, {api.MaxCPUs, -1}, {api.MaxCPUs + 1, -1}, {math.MaxInt, -1},
		{0, 0}, {-1, 0}, {math.MinInt, 0},
	} {
		wantWidth(t, b, need(c.cpus), [4]int{c.want})
	}
	most := start(t, spread(6, 6, 6, 6))
	wantWidth(t, most, need(api.MaxCPUs), [4]int{4})
	wantWidth(t, most, need(api.MaxCPUs-6), [4]int{3})
	wantWidth(t, most, need(api.MaxCPUs+1), [4]int{-1})
}

func TestWidthWithoutReserved(t *testing.T) {
	b := start(t, eight(api.None, 0, 7))
	wantWidth(t, b, need(3), [4]int{1})
	wantWidth(t, b, need(4), [4]int{2})
	wantWidth(t, b, need(6), [4]int{2})
	wantWidth(t, b, need(7), [4]int{-1})
	none := start(t, eight(api.None, allEight...))
	wantWidth(t, none, need(1), [4]int{-1})
	wantWidth(t, none, need(0), [4]int{})
}

func TestWidthOfDevices(t *testing.T) {
	b := start(t, eight(api.None))
	wantWidth(t, b, need(0, 1, 1, 1), [4]int{0, -1, -1, -1})
	register(t, b, 0, slices.Repeat(healthyIn(0, 1, 2, 3), 4))
	register(t, b, 1, append(healthyIn(2, 2), api.Device{Node: 2}))
	register(t, b, 2, healthyIn(3, 0))
	for _, c := range []struct {
		n    api.Need
		want [4]int
	}{
		{need(0, api.MaxDevices), [4]int{0, 4}},
		{need(0, api.MaxDevices+1), [4]int{0, -1}},
		{need(0, math.MaxInt, math.MinInt, 1), [4]int{0, -1, 0, 1}},
		{need(1, 4, 2, 2), [4]int{1, 1, 1, 2}},
		{need(8, 13, 3, 3), [4]int{2, 4, -1, -1}},
		{need(99, 8, 1, -1), [4]int{-1, 2, 1, 0}},
		{need(math.MaxInt, math.MaxInt, math.MaxInt, math.MaxInt), [4]int{-1, -1, -1, -1}},
		{need(math.MinInt, -1, -1, -1), [4]int{}},
	} {
		wantWidth(t, b, c.n, c.want)
	}
}

// Each way to lay CPUs and devices into the nodes, against the fullest nodes
// taken first.
func TestWidthOfAllSmallMachines(t *testing.T) {
	for n := 1; n < 3*3*3*3; n++ {
		counts := []int{n % 3, n / 3 % 3, n / 9 % 3, n / 27}
		m := spread(counts...)
		b := start(t, m)
		for kind := range api.MaxKinds {
			var devices []api.Device
			for _, cpu := range m.CPUs {
				devices = append(devices, healthyIn((cpu.Node+kind)%api.MaxNodes)...)
			}
			register(t, b, kind, devices)
		}
		for wanted := 1; wanted <= 9; wanted++ {
			w := fullestFirst(counts, wanted)
			wantWidth(t, b, need(wanted, wanted, wanted, wanted), [4]int{w, w, w, w})
		}
	}
}

func fullestFirst(counts []int, wanted int) int {
	sorted := slices.Sorted(slices.Values(counts))
	slices.Reverse(sorted)
	sum := 0
	for i, count := range sorted {
		sum += count
		if sum >= wanted {
			return i + 1
		}
	}
	return -1
}

// Ways: the answer is the same under every schedule, and berths that work at
// one time are nothing to one another (P2).
func TestWidthUnderManySchedules(t *testing.T) {
	var callers sync.WaitGroup
	for range 8 {
		b := start(t, eight(api.None))
		register(t, b, 0, healthyIn(0, 1, 1))
		register(t, b, 1, healthyIn(0, 1, 2))
		register(t, b, 2, healthyIn(3))
		callers.Go(func() {
			for range 500 {
				wantWidth(t, b, need(5, 2, 3, 2), [4]int{2, 1, 3, -1})
			}
		})
	}
	callers.Wait()
}

func TestWidthChangesNothing(t *testing.T) {
	b := start(t, eight(api.Single, 3))
	register(t, b, 0, healthyIn(0, 1))
	b.Width(need(99, 1, -1, 1))
	wantFree(t, "P1: after Width", b, grant([]int{0, 1, 2, 4, 5, 6, 7}, []int{0, 1}))
	if len(b.Boxes()) != 0 || len(b.Disk()) != 0 {
		t.Errorf("P7: Width made boxes %v or operations %v", b.Boxes(), b.Disk())
	}
}
