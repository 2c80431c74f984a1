package berth_test

import (
	"math"
	"slices"
	"testing"

	"berth/api"
	"berth/berth"
)

// call is an Admit, or a Release if it needs nothing.
type call struct {
	name string
	need api.Need
}

func (c call) do(b *berth.Berth) api.Errno {
	if c.need == (api.Need{}) {
		return b.Release(c.name)
	}
	_, errno := b.Admit(c.name, c.need)
	return errno
}

// story is some calls on one berth; none of them is refused.
func story() []call {
	return []call{
		{"a", need(2, 1)}, {"b", need(1)}, {"a", need(0)}, {"c", need(3, 0, 2)}, {"b", need(0)}, {"c", need(0)}, {"a", need(8)},
	}
}

func stage(t *testing.T) *berth.Berth {
	t.Helper()
	b := start(t, eight(api.None))
	register(t, b, 0, healthyIn(0, 1))
	register(t, b, 1, healthyIn(0, 1))
	return b
}

func TestEachChangeIsWritten(t *testing.T) {
	b := stage(t)
	ops := b.Disk()
	if len(ops) != 0 {
		t.Errorf("P3: ahead of all changes the disk is %v", ops)
	}
	for _, c := range story() {
		wantErrno(t, "P8: "+c.name, c.do(b), api.OK)
		now := b.Disk()
		if len(now) <= len(ops) || !slices.Equal(now[:len(ops)], ops) {
			t.Errorf("P8: behind %v the disk is %v, ahead of it %v", c, now, ops)
		}
		ops = now
	}
	b.Boxes()
	b.Free()
	b.Width(need(1))
	register(t, b, 0, nil)
	wantErrno(t, "P4: Health", b.Health(1, 0, false), api.OK)
	refuse(t, b, "x", need(25), api.ErrNeed)
	if !slices.Equal(b.Disk(), ops) {
		t.Errorf("P8: calls that change no boxes did %v", b.Disk()[len(ops):])
	}
}

func TestAdmitWithFailAtNought(t *testing.T) {
	b := stage(t)
	b.FailAt(0)
	refuse(t, b, "a", need(2, 1), api.ErrDisk)
	if len(b.Disk()) != 0 {
		t.Errorf("P8: the disk is %v, want as it was", b.Disk())
	}
	admit(t, b, "a", need(2, 1), grant([]int{0, 1}, []int{0}))
	ops := b.Disk()
	b.FailAt(0)
	wantErrno(t, "P6: Release", b.Release("a"), api.ErrDisk)
	wantBoxes(t, "P8: as it was", b, box("a", grant([]int{0, 1}, []int{0})))
	wantFree(t, "P8: as it was", b, grant([]int{2, 3, 4, 5, 6, 7}, []int{1}, []int{0, 1}))
	if !slices.Equal(b.Disk(), ops) {
		t.Errorf("P8: the disk is %v, want as it was", b.Disk())
	}
	release(t, b, "a")
}

// opsOf tells how many operations the story's calls do, each.
func opsOf(t *testing.T) []int {
	t.Helper()
	b := stage(t)
	var counts []int
	was := 0
	for _, c := range story() {
		wantErrno(t, "P8: "+c.name, c.do(b), api.OK)
		counts = append(counts, len(b.Disk())-was)
		was = len(b.Disk())
	}
	return counts
}

// One operation fails, at each place over all calls: just the call that it is of
// answers ErrDisk, and when that is called once more all goes on as if nothing
// had been.
func TestFailAtEachPlaceOfTheStory(t *testing.T) {
	counts := opsOf(t)
	ends := stage(t)
	for _, c := range story() {
		c.do(ends)
	}
	place := 0
	for which, count := range counts {
		for n := range count {
			b := stage(t)
			b.FailAt(place + n)
			for i, c := range story() {
				if i == which {
					failOnce(t, b, c, n)
				}
				wantErrno(t, "P8: beside the one that fails", c.do(b), api.OK)
			}
			wantBoxes(t, "P8: at the end", b, ends.Boxes()...)
			wantFree(t, "P8: at the end", b, ends.Free())
		}
		place += count
	}
}

func failOnce(t *testing.T, b *berth.Berth, c call, n int) {
	t.Helper()
	boxes, free, ops := b.Boxes(), b.Free(), b.Disk()
	wantErrno(t, "P8: the one that fails", c.do(b), api.ErrDisk)
	wantBoxes(t, "P8: as it was", b, boxes...)
	wantFree(t, "P8: as it was", b, free)
	now := b.Disk()
	if len(now) != len(ops)+n || !slices.Equal(now[:len(ops)], ops) {
		t.Errorf("P8: %d operations ahead of the one that fails: %v was %v", n, now, ops)
	}
}

// A box that can't be written moves none of the others, wherever its name would
// stand among theirs.
func TestBoxesStayWhereOneFails(t *testing.T) {
	names := []string{"h", "g", "f", "e", "d", "c", "b", "a"}
	b := start(t, eight(api.None))
	var want []api.Box
	for number, name := range names {
		for n := range 4 {
			b.FailAt(n)
			refuseToWrite(t, b, name, want)
		}
		admit(t, b, name, need(1), grant([]int{number}))
		want = slices.Insert(want, 0, box(name, grant([]int{number})))
		wantBoxes(t, "P7: by their names", b, want...)
	}
	for range names {
		b.FailAt(0)
		wantErrno(t, "P6: Release", b.Release(want[0].Name), api.ErrDisk)
		wantBoxes(t, "P8: as it was", b, want...)
		release(t, b, want[0].Name)
		want = want[1:]
	}
}

func refuseToWrite(t *testing.T, b *berth.Berth, name string, want []api.Box) {
	t.Helper()
	g, errno := b.Admit(name, need(1))
	if errno != api.ErrDisk || !sameGrant(g, api.Grant{}) {
		t.Errorf("P8: Admit that can't be written: %v, %d", g, errno)
	}
	wantBoxes(t, "P8: as it was", b, want...)
}

func TestFailAtCalledAgain(t *testing.T) {
	b := stage(t)
	b.FailAt(0)
	b.FailAt(-1)
	wantErrno(t, "P8: FailAt(-1)", call{"a", need(1)}.do(b), api.OK)
	b.FailAt(0)
	b.FailAt(math.MinInt)
	wantErrno(t, "P8: FailAt of the least", call{"b", need(1)}.do(b), api.OK)
	b.FailAt(math.MaxInt)
	wantErrno(t, "P8: FailAt of the greatest", b.Release("a"), api.OK)
	b.FailAt(0)
	wantErrno(t, "P8: FailAt(0)", b.Release("b"), api.ErrDisk)
	b.FailAt(0)
	wantErrno(t, "P8: FailAt(0) again", b.Release("b"), api.ErrDisk)
	b.FailAt(2)
	wantErrno(t, "P8: nothing is to be done", b.Release("a"), api.ErrNone)
	b.FailAt(1)
	wantErrno(t, "P8: FailAt(1) in place of FailAt(2)", b.Release("b"), api.ErrDisk)
	release(t, b, "b")
	wantBoxes(t, "P6: none", b)
}

func TestDiskIsNewMemory(t *testing.T) {
	b := stage(t)
	admit(t, b, "a", need(1), grant([]int{0}))
	first, second := b.Disk(), b.Disk()
	want := slices.Clone(first)
	whole := first[:cap(first)]
	for i := range whole {
		whole[i] = api.Op{Kind: 9}
	}
	if !slices.Equal(second, want) || !slices.Equal(b.Disk(), want) {
		t.Errorf("P2: the disk hangs on what came out: %v, %v", second, b.Disk())
	}
	release(t, b, "a")
	if got := b.Disk(); !slices.Equal(got[:len(want)], want) {
		t.Errorf("P2: the disk is %v, had been %v", got, want)
	}
}
