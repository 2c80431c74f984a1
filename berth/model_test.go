package berth_test

import (
	"math/rand/v2"
	"slices"
	"testing"

	"berth/api"
	"berth/berth"
)

// model follows the words of the document, without regard to time: all that it
// tells is worked out anew from the machine, the devices and the boxes.
type model struct {
	m       api.Machine
	devices [api.MaxKinds][]api.Device
	boxes   []api.Box
}

func (m *model) cpuIsFree(number int) bool {
	if slices.Contains(m.m.Reserved, number) {
		return false
	}
	for _, box := range m.boxes {
		if slices.Contains(box.Grant.CPUs, number) {
			return false
		}
	}
	return true
}

func (m *model) deviceIsFree(kind, number int) bool {
	for _, box := range m.boxes {
		if slices.Contains(box.Grant.Devices[kind], number) {
			return false
		}
	}
	return m.devices[kind][number].Healthy
}

func (m *model) free() api.Grant {
	return m.freeIn(15)
}

func (m *model) freeIn(mask int) api.Grant {
	var g api.Grant
	for number, cpu := range m.m.CPUs {
		if m.cpuIsFree(number) && mask>>cpu.Node&1 == 1 {
			g.CPUs = append(g.CPUs, number)
		}
	}
	for kind, devices := range m.devices {
		for number, device := range devices {
			if m.deviceIsFree(kind, number) && mask>>device.Node&1 == 1 {
				g.Devices[kind] = append(g.Devices[kind], number)
			}
		}
	}
	return g
}

func (m *model) fits(mask int, n api.Need) bool {
	free := m.freeIn(mask)
	fits := len(free.CPUs) >= n.CPUs
	for kind, wanted := range n.Devices {
		fits = fits && len(free.Devices[kind]) >= wanted
	}
	return fits
}

// widths is what Width tells, by the fullest nodes first.
func (m *model) widths(n api.Need) [4]int {
	var widths [4]int
	counts := make([]int, api.MaxNodes)
	for number, cpu := range m.m.CPUs {
		if !slices.Contains(m.m.Reserved, number) {
			counts[cpu.Node]++
		}
	}
	if n.CPUs > 0 {
		widths[0] = fullestFirst(counts, n.CPUs)
	}
	for kind, wanted := range n.Devices {
		counts := make([]int, api.MaxNodes)
		for _, device := range m.devices[kind] {
			if device.Healthy {
				counts[device.Node]++
			}
		}
		if wanted > 0 {
			widths[1+kind] = fullestFirst(counts, wanted)
		}
	}
	return widths
}

func widthOf(mask int) int {
	return mask&1 + mask>>1&1 + mask>>2&1 + mask>>3
}

func (m *model) good(mask int, n api.Need) bool {
	for _, least := range m.widths(n) {
		if least != 0 && least != widthOf(mask) {
			return false
		}
	}
	return m.fits(mask, n)
}

// maskOf is the mask of a need, or 0.
func (m *model) maskOf(n api.Need) int {
	if m.m.Policy == api.None {
		return 15
	}
	fallback := 0
	for _, mask := range []int{1, 2, 4, 8, 3, 5, 6, 9, 10, 12, 7, 11, 13, 14, 15} {
		switch {
		case m.m.Policy == api.Single && widthOf(mask) == 1 && m.fits(mask, n):
			return mask
		case m.m.Policy != api.Single && m.good(mask, n):
			return mask
		case m.m.Policy == api.BestEffort && fallback == 0 && m.fits(mask, n):
			fallback = mask
		}
	}
	return fallback
}

func (m *model) errnoOf(name string, n api.Need) api.Errno {
	numbers := []int{n.CPUs, n.Devices[0], n.Devices[1], n.Devices[2]}
	switch {
	case len(name) < 1 || len(name) > 20:
		return api.ErrName
	case m.has(name):
		return api.ErrTwice
	case slices.Min(numbers) < 0 || n.CPUs > 24 || slices.Max(numbers[1:]) > 16 || slices.Max(numbers) == 0:
		return api.ErrNeed
	case len(m.boxes) == 12:
		return api.ErrMany
	case !m.fits(15, n):
		return api.ErrFew
	case m.maskOf(n) == 0:
		return api.ErrNode
	}
	return api.OK
}

func (m *model) has(name string) bool {
	return slices.ContainsFunc(m.boxes, func(box api.Box) bool { return box.Name == name })
}

func (m *model) sorted() []api.Box {
	return slices.SortedFunc(slices.Values(m.boxes), func(a, b api.Box) int {
		return slices.Compare([]byte(a.Name), []byte(b.Name))
	})
}

// checkGrant looks whether what a box was given is what the words allow. (Which
// CPUs of the mask's nodes they are is looked at by the tests of package choice.)
func (m *model) checkGrant(t *testing.T, n api.Need, g api.Grant) {
	t.Helper()
	free := m.freeIn(m.maskOf(n))
	if len(g.CPUs) != n.CPUs || !slices.IsSorted(g.CPUs) {
		t.Errorf("P5: the CPUs for %v are %v", n, g.CPUs)
	}
	for i, number := range g.CPUs {
		if !slices.Contains(free.CPUs, number) || slices.Contains(g.CPUs[:i], number) {
			t.Errorf("P5: for %v CPU %d was given, free were %v", n, number, free.CPUs)
		}
	}
	for kind, wanted := range n.Devices {
		if !slices.Equal(g.Devices[kind], free.Devices[kind][:wanted]) {
			t.Errorf("P5: for %v devices %v, free were %v", n, g.Devices[kind], free.Devices[kind])
		}
	}
}

func anyMachine(r *rand.Rand) api.Machine {
	m := spread(1+r.IntN(6), r.IntN(7), r.IntN(7), r.IntN(7))
	for i := range m.CPUs {
		m.CPUs[i].Core -= m.CPUs[i].Core % 2 * r.IntN(2)
		if i > 0 && m.CPUs[m.CPUs[i].Core].Node != m.CPUs[i].Node {
			m.CPUs[i].Core = i
		}
		if r.IntN(6) == 0 {
			m.Reserved = append(m.Reserved, i)
		}
	}
	m.Policy = r.IntN(4)
	return m
}

func anyDevices(r *rand.Rand) []api.Device {
	devices := make([]api.Device, r.IntN(api.MaxDevices+1))
	for i := range devices {
		devices[i] = api.Device{Node: r.IntN(api.MaxNodes), Healthy: r.IntN(5) > 0}
	}
	return devices
}

func anyNeed(r *rand.Rand) api.Need {
	return need(r.IntN(6)-r.IntN(2), r.IntN(4), r.IntN(3)*r.IntN(2), r.IntN(9)*r.IntN(2))
}

// walk does one call on both, and holds their answers against each other.
func (m *model) walk(t *testing.T, r *rand.Rand, b *berth.Berth) {
	t.Helper()
	name := string(rune('a' + r.IntN(16)))
	switch r.IntN(8) {
	case 0:
		kind, devices := r.IntN(api.MaxKinds), anyDevices(r)
		register(t, b, kind, devices)
		m.devices[kind] = devices
	case 1:
		kind, number, healthy := r.IntN(api.MaxKinds), r.IntN(api.MaxDevices), r.IntN(2) == 0
		if b.Health(kind, number, healthy) == api.OK {
			m.devices[kind][number].Healthy = healthy
		}
	case 2, 3:
		want := api.ErrNone
		if m.has(name) {
			want = api.OK
		}
		wantErrno(t, "P6: Release", b.Release(name), want)
		m.boxes = slices.DeleteFunc(m.boxes, func(box api.Box) bool { return box.Name == name })
	default:
		n := anyNeed(r)
		g, errno := b.Admit(name, n)
		wantErrno(t, "P5: Admit", errno, m.errnoOf(name, n))
		if errno == api.OK {
			m.checkGrant(t, n, g)
			m.boxes = append(m.boxes, box(name, g))
		}
	}
	wantBoxes(t, "P7: Boxes", b, m.sorted()...)
	wantFree(t, "P7: Free", b, m.free())
	n := anyNeed(r)
	wantWidth(t, b, n, m.widths(n))
}

func TestManyCalls(t *testing.T) {
	r := rand.New(rand.NewPCG(3, 4))
	for range 150 {
		m := &model{m: anyMachine(r)}
		b := start(t, m.m)
		for range 150 {
			m.walk(t, r, b)
		}
		if t.Failed() {
			t.Fatalf("the machine was %v", m.m)
		}
	}
}
