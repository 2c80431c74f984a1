package berth_test

import (
	"math"
	"slices"
	"strings"
	"sync"
	"testing"
	"unsafe"

	"berth/api"
	"berth/berth"
)

func TestAdmitSingle(t *testing.T) {
	b := start(t, eight(api.Single))
	admit(t, b, "a", need(2), grant([]int{0, 1}))
	admit(t, b, "b", need(1), grant([]int{2}))
	admit(t, b, "c", need(4), grant([]int{4, 5, 6, 7}))
	refuse(t, b, "d", need(2), api.ErrFew)
	release(t, b, "c")
	admit(t, b, "c", need(2), grant([]int{4, 5}))
	admit(t, b, "d", need(1), grant([]int{3}))
	admit(t, b, "e", need(2), grant([]int{6, 7}))
	release(t, b, "d")
	release(t, b, "e")
	admit(t, b, "e", need(1), grant([]int{3}))
	admit(t, b, "f", need(1), grant([]int{6}))
	release(t, b, "e")
	refuse(t, b, "g", need(2), api.ErrNode) // 3 and 7 are free
	release(t, b, "f")
	refuse(t, b, "g", need(3), api.ErrNode)
	admit(t, b, "g", need(2), grant([]int{6, 7}))
}

func TestAdmitNone(t *testing.T) {
	b := start(t, eight(api.None))
	admit(t, b, "a", need(5), grant([]int{0, 1, 2, 3, 4}))
	admit(t, b, "b", need(3), grant([]int{5, 6, 7}))
	b = start(t, eight(api.None))
	admit(t, b, "a", need(1), grant([]int{0}))
	admit(t, b, "b", need(3), grant([]int{1, 2, 3}))
	b = start(t, eight(api.None))
	admit(t, b, "all", need(8), grant(allEight))
	refuse(t, b, "one", need(1), api.ErrFew)
}

func TestAdmitWithRoomButForWhatIsOwned(t *testing.T) {
	for policy, want := range map[int]api.Errno{
		api.None: api.OK, api.BestEffort: api.OK, api.Restricted: api.ErrNode, api.Single: api.ErrNode,
	} {
		b := start(t, eight(policy))
		admit(t, b, "a", need(2), grant([]int{0, 1}))
		admit(t, b, "b", need(2), grant([]int{2, 3}))
		admit(t, b, "c", need(2), grant([]int{4, 5}))
		release(t, b, "b")
		if want != api.OK {
			refuse(t, b, "d", need(3), want)
			continue
		}
		admit(t, b, "d", need(3), grant([]int{2, 3, 6}))
	}
	b := start(t, eight(api.BestEffort, 0, 1, 6, 7))
	admit(t, b, "a", need(3), grant([]int{2, 3, 4}))
}

// What is reserved isn't there for the least width either: that of three is 2.
func TestAdmitBesideReserved(t *testing.T) {
	b := start(t, eight(api.Restricted, 0, 1, 6, 7))
	admit(t, b, "a", need(3), grant([]int{2, 3, 4}))
	refuse(t, b, "b", need(2), api.ErrFew)
	b = start(t, eight(api.None, 0))
	admit(t, b, "a", need(4), grant([]int{4, 5, 6, 7}))
	b = start(t, eight(api.None, 0, 4))
	admit(t, b, "a", need(4), grant([]int{2, 3, 6, 7}))
	admit(t, b, "b", need(2), grant([]int{1, 5}))
	b = start(t, eight(api.None, allEight...))
	refuse(t, b, "a", need(1), api.ErrFew)
	register(t, b, 0, healthyIn(2))
	admit(t, b, "a", need(0, 1), grant(nil, []int{0}))
}

func TestAdmitDevices(t *testing.T) {
	for policy := api.BestEffort; policy <= api.Single; policy++ {
		b := start(t, eight(policy))
		register(t, b, 0, healthyIn(0, 1, 1))
		admit(t, b, "a", need(2, 2), grant([]int{4, 5}, []int{1, 2}))
		refuse(t, b, "b", need(0, 2), api.ErrFew)
		admit(t, b, "b", need(1, 1), grant([]int{0}, []int{0}))
	}
	b := start(t, eight(api.None))
	register(t, b, 0, healthyIn(0, 1, 1))
	register(t, b, 2, healthyIn(3, 2))
	admit(t, b, "a", need(2, 2), grant([]int{0, 1}, []int{0, 1}))
	admit(t, b, "b", need(0, 1, 0, 2), grant(nil, []int{2}, nil, []int{0, 1}))
	refuse(t, b, "c", need(1, 0, 1), api.ErrFew)
}

func TestAdmitWithAnUnhealthyDevice(t *testing.T) {
	for policy := api.None; policy <= api.Single; policy++ {
		b := start(t, eight(policy))
		register(t, b, 0, healthyIn(0, 1, 1))
		wantErrno(t, "P4: Health", b.Health(0, 1, false), api.OK)
		refuse(t, b, "a", need(0, 3), api.ErrFew)
		if policy == api.Single || policy == api.Restricted {
			refuse(t, b, "a", need(2, 2), api.ErrNode)
			continue
		}
		admit(t, b, "a", need(2, 2), grant([]int{0, 1}, []int{0, 2}))
	}
	b := start(t, eight(api.Restricted))
	register(t, b, 0, healthyIn(0, 1, 1))
	wantErrno(t, "P4: Health", b.Health(0, 1, false), api.OK)
	admit(t, b, "a", need(5, 2), grant([]int{0, 1, 2, 3, 4}, []int{0, 2}))
	refuse(t, b, "b", need(0, 1), api.ErrFew)
}

// A box goes on to own what is not healthy, or not in the list, any more.
func TestOwnedDevicesThatAreNoMore(t *testing.T) {
	b := start(t, eight(api.None))
	register(t, b, 0, healthyIn(0, 0, 1))
	admit(t, b, "a", need(0, 2), grant(nil, []int{0, 1}))
	mine := box("a", grant(nil, []int{0, 1}))

	wantErrno(t, "P4: Health of what is owned", b.Health(0, 0, false), api.OK)
	wantBoxes(t, "P5: one is not healthy", b, mine)
	wantErrno(t, "P4: Health of what is owned", b.Health(0, 0, true), api.OK)
	wantFree(t, "P7: healthy again, but owned", b, grant(allEight, []int{2}))

	register(t, b, 0, healthyIn(0))
	wantBoxes(t, "P5: one is not in the list", b, mine)
	wantFree(t, "P7: the other is owned", b, grant(allEight))
	refuse(t, b, "b", need(0, 1), api.ErrFew)
	register(t, b, 0, nil)
	wantBoxes(t, "P5: none is in the list", b, mine)
	wantWidth(t, b, need(0, 1), [4]int{0, -1})

	register(t, b, 0, healthyIn(3, 3, 3))
	wantFree(t, "P7: other devices of these numbers", b, grant(allEight, []int{2}))
	register(t, b, 1, healthyIn(3, 3, 3))
	wantFree(t, "P7: another kind of these numbers", b, grant(allEight, []int{2}, []int{0, 1, 2}))
	release(t, b, "a")
	wantFree(t, "P6: nobody's", b, grant(allEight, []int{0, 1, 2}, []int{0, 1, 2}))
	wantErrno(t, "P4: Health", b.Health(0, 0, false), api.OK)
	admit(t, b, "b", need(0, 2), grant(nil, []int{1, 2}))
	release(t, b, "b")
	wantFree(t, "P6: nobody's, but not healthy", b, grant(allEight, []int{1, 2}, []int{0, 1, 2}))
}

func TestWidthLooksAtWhatIsOwnedToo(t *testing.T) {
	b := start(t, eight(api.None))
	register(t, b, 1, healthyIn(0, 0, 1))
	admit(t, b, "a", need(3, 0, 1), grant([]int{0, 1, 2}, nil, []int{0}))
	wantWidth(t, b, need(4, 0, 2), [4]int{1, 0, 1})
	wantWidth(t, b, need(5, 0, 3), [4]int{2, 0, 2})
	wantWidth(t, b, need(8, 0, 4), [4]int{2, 0, -1})
}

func TestAdmitAllThatIsFree(t *testing.T) {
	m := spread(6, 6, 6, 6)
	b := start(t, m)
	for kind := range api.MaxKinds {
		register(t, b, kind, slices.Repeat(healthyIn(0, 1, 2, 3), api.MaxDevices/4))
	}
	all := b.Free()
	admit(t, b, "all", need(api.MaxCPUs, api.MaxDevices, api.MaxDevices, api.MaxDevices), all)
	wantFree(t, "P7: nothing", b, api.Grant{})
	for _, n := range []api.Need{need(1), need(0, 1), need(0, 0, 1), need(0, 0, 0, 1), need(api.MaxCPUs)} {
		refuse(t, b, "more", n, api.ErrFew)
	}
	release(t, b, "all")
	wantFree(t, "P6: all", b, all)
}

func TestAdmitErrors(t *testing.T) {
	long := strings.Repeat("n", api.MaxName+1)
	b := start(t, eight(api.Single))
	register(t, b, 0, healthyIn(0, 1))
	admit(t, b, "a", need(1), grant([]int{0}))
	for _, c := range []struct {
		name string
		n    api.Need
		want api.Errno
	}{
		{"", need(1), api.ErrName},
		{long, need(1), api.ErrName},
		{strings.Repeat("\x00", 1<<16), need(1), api.ErrName},
		{"", need(-1), api.ErrName},
		{long, need(0), api.ErrName},
		{"a", need(1), api.ErrTwice},
		{"a", need(-1), api.ErrTwice},
		{"a", need(0, 99), api.ErrTwice},
		{"b", need(0), api.ErrNeed},
		{"b", need(-1), api.ErrNeed},
		{"b", need(math.MinInt), api.ErrNeed},
		{"b", need(api.MaxCPUs + 1), api.ErrNeed},
		{"b", need(math.MaxInt), api.ErrNeed},
		{"b", need(1, -1), api.ErrNeed},
		{"b", need(1, 0, api.MaxDevices+1), api.ErrNeed},
		{"b", need(1, 0, 0, math.MinInt), api.ErrNeed},
		{"b", need(99, math.MaxInt, 0, 0), api.ErrNeed},
		{"b", need(-3, 4), api.ErrNeed},
		{"b", need(api.MaxCPUs), api.ErrFew},
		{"b", need(8), api.ErrFew},
		{"b", need(1, api.MaxDevices), api.ErrFew},
		{"b", need(1, 0, 1), api.ErrFew},
		{"b", need(5), api.ErrNode},
		{"b", need(0, 2), api.ErrNode},
		{"b", need(4, 1, 0, 1), api.ErrFew},
	} {
		refuse(t, b, c.name, c.n, c.want)
	}
}

// crowd is a berth of the most boxes, with a CPU each, and CPUs left.
func crowd(t *testing.T) *berth.Berth {
	t.Helper()
	m := spread(12, 12)
	m.Policy = api.Single
	b := start(t, m)
	for i := range api.MaxBoxes {
		admit(t, b, string(rune('a'+i)), need(1), grant([]int{i}))
	}
	return b
}

func TestAdmitTheMostBoxes(t *testing.T) {
	b := crowd(t)
	refuse(t, b, "z", need(1), api.ErrMany)
	refuse(t, b, "z", need(api.MaxCPUs), api.ErrMany) // ahead of ErrFew
	refuse(t, b, "z", need(0), api.ErrNeed)
	refuse(t, b, "a", need(1), api.ErrTwice)
	refuse(t, b, "", need(1), api.ErrName)
	release(t, b, "c")
	admit(t, b, "z", need(1), grant([]int{2}))
	refuse(t, b, "c", need(1), api.ErrMany)
}

// ErrFew and ErrNode stand ahead of ErrDisk: nothing is to be written then.
func TestAdmitErrorsAheadOfTheDisk(t *testing.T) {
	b := start(t, eight(api.Single))
	b.FailAt(0)
	refuse(t, b, "", need(1), api.ErrName)
	refuse(t, b, "a", need(0), api.ErrNeed)
	refuse(t, b, "a", need(9), api.ErrFew)
	refuse(t, b, "a", need(5), api.ErrNode)
	wantErrno(t, "P6: Release", b.Release("a"), api.ErrNone)
	refuse(t, b, "a", need(1), api.ErrDisk)
	admit(t, b, "a", need(1), grant([]int{0}))
}

func TestAdmitNames(t *testing.T) {
	names := []string{
		"\x00", "\x00\x00", "\n", " ", "A", "a", "a\x00", "aa", "aaa", "ab", "b",
		strings.Repeat("z", api.MaxName-1),
	}
	b := start(t, spread(6, 6, 6, 6))
	var want []api.Box
	for i, name := range slices.Backward(names) {
		g := grant([]int{len(names) - 1 - i})
		admit(t, b, name, need(1), g)
		want = append(want, box(name, g))
	}
	slices.Reverse(want)
	wantBoxes(t, "P7: by their names", b, want...)
	// There are the most boxes now: each further name stands in for one of them.
	for _, name := range []string{"\xff", "\xffa", "é", strings.Repeat("\xff", api.MaxName), strings.Repeat("z", api.MaxName)} {
		release(t, b, "b")
		admit(t, b, name, need(1), grant([]int{1}))
		wantOrder(t, b)
		release(t, b, name)
		wantErrno(t, "P6: Release", b.Release("b"), api.ErrNone)
		admit(t, b, "b", need(1), grant([]int{1}))
	}
	wantErrno(t, "P6: a beginning of a name", b.Release("z"), api.ErrNone)
	wantErrno(t, "P6: a name and more", b.Release("aaaa"), api.ErrNone)
	wantBoxes(t, "P7: as before", b, want...)
}

func wantOrder(t *testing.T, b *berth.Berth) {
	t.Helper()
	boxes := b.Boxes()
	for i := 1; i < len(boxes); i++ {
		if boxes[i-1].Name >= boxes[i].Name {
			t.Errorf("P7: %q comes ahead of %q", boxes[i-1].Name, boxes[i].Name)
		}
	}
}

func TestRelease(t *testing.T) {
	b := start(t, eight(api.Single))
	for _, name := range []string{"", "a", strings.Repeat("x", 99)} {
		wantErrno(t, "P6: Release without boxes", b.Release(name), api.ErrNone)
	}
	if len(b.Disk()) != 0 {
		t.Errorf("P1: Release of none did %v", b.Disk())
	}
	admit(t, b, "b", need(2), grant([]int{0, 1}))
	admit(t, b, "a", need(1), grant([]int{2}))
	admit(t, b, "c", need(3), grant([]int{4, 5, 6}))
	release(t, b, "b")
	wantErrno(t, "P6: Release once more", b.Release("b"), api.ErrNone)
	wantBoxes(t, "P6: without the one", b, box("a", grant([]int{2})), box("c", grant([]int{4, 5, 6})))
	wantFree(t, "P6: what it owned is nobody's", b, grant([]int{0, 1, 3, 7}))
	release(t, b, "c")
	release(t, b, "a")
	wantBoxes(t, "P6: none", b)
	wantFree(t, "P6: all", b, grant(allEight))
}

// P2: what comes out is new memory, each list of it.
func TestAdmitAndBoxesAreNewMemory(t *testing.T) {
	b := start(t, eight(api.None))
	for kind := range api.MaxKinds {
		register(t, b, kind, healthyIn(0, 1, 1, 1))
	}
	mine := grant([]int{0, 1}, []int{0, 1}, []int{0, 1}, []int{0, 1})
	got, _ := b.Admit("a", need(2, 2, 2, 2))
	other, _ := b.Admit("b", need(2, 2, 2, 2))
	overwrite(got.CPUs)
	overwrite(got.Devices[1])
	if !slices.Equal(got.Devices[0], []int{0, 1}) || !slices.Equal(got.Devices[2], []int{0, 1}) {
		t.Errorf("P2: lists of one grant share room: %v", got)
	}
	theirs := grant([]int{2, 3}, []int{2, 3}, []int{2, 3}, []int{2, 3})
	if !sameGrant(other, theirs) {
		t.Errorf("P2: one grant changed with another: %v", other)
	}
	want := []api.Box{box("a", mine), box("b", theirs)}
	wantBoxes(t, "P2: the grant written over", b, want...)

	first, second := b.Boxes(), b.Boxes()
	for _, list := range [][]int{first[0].Grant.CPUs, first[0].Grant.Devices[0], first[1].Grant.Devices[2]} {
		overwrite(list)
	}
	if !slices.Equal(first[1].Grant.CPUs, theirs.CPUs) || !slices.Equal(first[0].Grant.Devices[2], mine.Devices[2]) {
		t.Errorf("P2: lists of one answer share room: %v", first)
	}
	whole := first[:cap(first)]
	for i := range whole {
		whole[i] = box("none", api.Grant{})
	}
	if !sameBoxes(second, want) {
		t.Errorf("P2: one answer changed with another: %v", second)
	}
	wantBoxes(t, "P2: the boxes written over", b, want...)

	free := b.Free()
	overwrite(free.CPUs)
	wantFree(t, "P2: what is free written over", b, grant([]int{4, 5, 6, 7}))
	wantBoxes(t, "P2: what is free written over", b, want...)
}

// P2: what one berth does is nothing to another.
func TestBoxesOfTwoBerthsInTurns(t *testing.T) {
	m := eight(api.Single)
	a, b := start(t, m), start(t, m)
	a.FailAt(0)
	admit(t, b, "x", need(2), grant([]int{0, 1}))
	refuse(t, a, "x", need(1), api.ErrDisk)
	admit(t, a, "x", need(4), grant([]int{0, 1, 2, 3}))
	admit(t, b, "y", need(4), grant([]int{4, 5, 6, 7}))
	opsOfA := a.Disk()
	release(t, b, "x")
	wantBoxes(t, "P2: the one", a, box("x", grant([]int{0, 1, 2, 3})))
	wantBoxes(t, "P2: the other", b, box("y", grant([]int{4, 5, 6, 7})))
	wantErrno(t, "P2: the other's box", a.Release("y"), api.ErrNone)
	if !slices.Equal(a.Disk(), opsOfA) {
		t.Errorf("P2: the disk of the one changed: %v", a.Disk())
	}
}

// P2: nothing that is handed in is kept, so not the text that a name is a piece
// of either.
func TestAdmitKeepsNoName(t *testing.T) {
	long := strings.Repeat("name", 1000)
	b := start(t, eight(api.None))
	admit(t, b, long[:4], need(1), grant([]int{0}))
	if unsafe.StringData(b.Boxes()[0].Name) == unsafe.StringData(long) {
		t.Error("P2: the name that was handed in is kept")
	}
}

// Ways: what a box gets is the same under every schedule.
func TestAdmitUnderManySchedules(t *testing.T) {
	var callers sync.WaitGroup
	for range 8 {
		b := start(t, eight(api.BestEffort))
		register(t, b, 0, healthyIn(0, 1, 1))
		register(t, b, 1, healthyIn(1, 1, 0))
		register(t, b, 2, healthyIn(1, 0))
		callers.Go(func() {
			for range 200 {
				admit(t, b, "a", need(3, 2, 2, 1), grant([]int{4, 5, 6}, []int{1, 2}, []int{0, 1}, []int{0}))
				admit(t, b, "b", need(3, 1, 1), grant([]int{0, 1, 2}, []int{0}, []int{2}))
				refuse(t, b, "c", need(2, 0, 0, 2), api.ErrFew)
				release(t, b, "b")
				release(t, b, "a")
			}
		})
	}
	callers.Wait()
}
