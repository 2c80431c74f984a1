package berth_test

import (
	"math"
	"slices"
	"testing"

	"berth/api"
)

var allEight = []int{0, 1, 2, 3, 4, 5, 6, 7}

func TestRegisterIsTheListNow(t *testing.T) {
	b := start(t, eight(api.None))
	register(t, b, 0, healthyIn(0, 1, 3))
	register(t, b, api.MaxKinds-1, []api.Device{{Node: 0}, {Node: 2, Healthy: true}})
	wantFree(t, "P4: two kinds", b, grant(allEight, []int{0, 1, 2}, nil, []int{1}))
	register(t, b, 0, healthyIn(1))
	wantFree(t, "P4: a shorter list", b, grant(allEight, []int{0}, nil, []int{1}))
	register(t, b, 0, nil)
	register(t, b, 2, []api.Device{})
	wantFree(t, "P4: empty lists", b, grant(allEight))
}

func TestRegisterTheMostDevices(t *testing.T) {
	b := start(t, eight(api.None))
	most := slices.Repeat(healthyIn(api.MaxNodes-1), api.MaxDevices)
	register(t, b, 1, most)
	if got := b.Free().Devices[1]; len(got) != api.MaxDevices {
		t.Errorf("P4: %d devices free, want %d", len(got), api.MaxDevices)
	}
}

func TestRegisterErrors(t *testing.T) {
	b := start(t, eight(api.None))
	register(t, b, 0, healthyIn(0, 1))
	tooMany := make([]api.Device, api.MaxDevices+1)
	badAndTooMany := slices.Repeat(healthyIn(api.MaxNodes), api.MaxDevices+1)
	for _, c := range []struct {
		what    string
		kind    int
		devices []api.Device
		want    api.Errno
	}{
		{"kind above", api.MaxKinds, healthyIn(0), api.ErrKind},
		{"kind below", -1, nil, api.ErrKind},
		{"kind far above", math.MaxInt, nil, api.ErrKind},
		{"kind far below", math.MinInt, nil, api.ErrKind},
		{"one too many", 0, tooMany, api.ErrMany},
		{"node above", 0, healthyIn(0, api.MaxNodes), api.ErrDevice},
		{"node below", 0, healthyIn(-1, 0), api.ErrDevice},
		{"node far below, not healthy", 0, []api.Device{{Node: math.MinInt}}, api.ErrDevice},
		{"kind ahead of many and node", api.MaxKinds, badAndTooMany, api.ErrKind},
		{"kind ahead of node", -1, healthyIn(-1), api.ErrKind},
		{"many ahead of node", 0, badAndTooMany, api.ErrMany},
	} {
		wantErrno(t, "P4: Register, "+c.what, b.Register(c.kind, c.devices), c.want)
		wantFree(t, "P1: after "+c.what, b, grant(allEight, []int{0, 1}))
	}
}

func TestHealth(t *testing.T) {
	b := start(t, eight(api.None))
	register(t, b, 1, []api.Device{{Node: 0, Healthy: true}, {Node: 1}, {Node: 1, Healthy: true}})
	register(t, b, 2, healthyIn(0, 0, 0))
	for _, step := range []struct {
		device  int
		healthy bool
		want    []int
	}{
		{1, true, []int{0, 1, 2}},
		{0, false, []int{1, 2}},
		{0, false, []int{1, 2}},
		{2, false, []int{1}},
		{0, true, []int{0, 1}},
		{0, true, []int{0, 1}},
	} {
		wantErrno(t, "P4: Health", b.Health(1, step.device, step.healthy), api.OK)
		wantFree(t, "P4: Health", b, grant(allEight, nil, step.want, []int{0, 1, 2}))
	}
	register(t, b, 1, healthyIn(0, 0, 0))
	wantFree(t, "P4: registered anew", b, grant(allEight, nil, []int{0, 1, 2}, []int{0, 1, 2}))
}

func TestHealthErrors(t *testing.T) {
	b := start(t, eight(api.None))
	register(t, b, 0, healthyIn(0, 1))
	for _, c := range []struct {
		what         string
		kind, device int
		want         api.Errno
	}{
		{"kind above", api.MaxKinds, 0, api.ErrKind},
		{"kind below", -1, 0, api.ErrKind},
		{"kind far above", math.MaxInt, 0, api.ErrKind},
		{"kind ahead of device", math.MinInt, -1, api.ErrKind},
		{"device above", 0, 2, api.ErrDevice},
		{"device below", 0, -1, api.ErrDevice},
		{"device far below", 0, math.MinInt, api.ErrDevice},
		{"device far above", 0, math.MaxInt, api.ErrDevice},
		{"a kind of no devices", 1, 0, api.ErrDevice},
	} {
		wantErrno(t, "P4: Health, "+c.what, b.Health(c.kind, c.device, false), c.want)
		wantFree(t, "P1: after "+c.what, b, grant(allEight, []int{0, 1}))
	}
	register(t, b, 0, healthyIn(0))
	wantErrno(t, "P4: Health of what the list has no more", b.Health(0, 1, true), api.ErrDevice)
}

// P2: the list that is handed in is neither written into nor kept.
func TestRegisterLeavesItsListAlone(t *testing.T) {
	b := start(t, eight(api.None))
	whole := healthyIn(0, 1, 2, 3)
	ahead := slices.Clone(whole)
	register(t, b, 0, whole[:2])
	register(t, b, 1, whole[:3])
	wantErrno(t, "P4: Health", b.Health(0, 0, false), api.OK)
	if !slices.Equal(whole, ahead) {
		t.Errorf("P2: Register or Health wrote into the list: %v", whole)
	}
	wantFree(t, "P2: kinds of one list", b, grant(allEight, []int{1}, []int{0, 1, 2}))
	for i := range whole {
		whole[i] = api.Device{Node: 3}
	}
	wantFree(t, "P2: the list written over", b, grant(allEight, []int{1}, []int{0, 1, 2}))
	wantWidth(t, b, need(0, 1, 3), [4]int{0, 1, 3, 0})
}

func TestDevicesAreNotWrittenToTheDisk(t *testing.T) {
	b := start(t, eight(api.None))
	register(t, b, 0, healthyIn(0, 1))
	wantErrno(t, "P4: Health", b.Health(0, 1, false), api.OK)
	if got := b.Disk(); len(got) != 0 {
		t.Errorf("P4: operations %v, want none", got)
	}
}
