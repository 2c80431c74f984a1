package berth_test

import (
	"math"
	"slices"
	"testing"

	"berth/api"
	"berth/berth"
	"berth/checkpoint"
)

// call is an Admit, or a Release if it needs nothing.
type call struct {
	name string
	need api.Need
}

func (c call) do(b *berth.Berth) api.Errno {
	if c.need == (api.Need{}) {
		return b.Release(c.name)
	}
	_, errno := b.Admit(c.name, c.need)
	return errno
}

// story is some calls on one berth; none of them is refused.
func story() []call {
	return []call{
		{"a", need(2, 1)}, {"b", need(1)}, {"a", need(0)}, {"c", need(3, 0, 2)}, {"b", need(0)}, {"c", need(0)}, {"a", need(8)},
	}
}

func stage(t *testing.T) *berth.Berth {
	t.Helper()
	b := start(t, eight(api.None))
	register(t, b, 0, healthyIn(0, 1))
	register(t, b, 1, healthyIn(0, 1))
	return b
}

func TestEachChangeIsWritten(t *testing.T) {
	b := stage(t)
	ops := b.Disk()
	if len(ops) != 0 {
		t.Errorf("P3: ahead of all changes the disk is %v", ops)
	}
	for _, c := range story() {
		wantErrno(t, "P8: "+c.name, c.do(b), api.OK)
		now := b.Disk()
		if len(now) <= len(ops) || !slices.Equal(now[:len(ops)], ops) {
			t.Errorf("P8: behind %v the disk is %v, ahead of it %v", c, now, ops)
		}
		ops = now
	}
	b.Boxes()
	b.Free()
	b.Width(need(1))
	register(t, b, 0, nil)
	wantErrno(t, "P4: Health", b.Health(1, 0, false), api.OK)
	refuse(t, b, "x", need(25), api.ErrNeed)
	if !slices.Equal(b.Disk(), ops) {
		t.Errorf("P8: calls that change no boxes did %v", b.Disk()[len(ops):])
	}
}

func TestAdmitWithFailAtNought(t *testing.T) {
	b := stage(t)
	b.FailAt(0)
	refuse(t, b, "a", need(2, 1), api.ErrDisk)
	if len(b.Disk()) != 0 {
		t.Errorf("P8: the disk is %v, want as it was", b.Disk())
	}
	admit(t, b, "a", need(2, 1), grant([]int{0, 1}, []int{0}))
	ops := b.Disk()
	b.FailAt(0)
	wantErrno(t, "P6: Release", b.Release("a"), api.ErrDisk)
	wantBoxes(t, "P8: as it was", b, box("a", grant([]int{0, 1}, []int{0})))
	wantFree(t, "P8: as it was", b, grant([]int{2, 3, 4, 5, 6, 7}, []int{1}, []int{0, 1}))
	if !slices.Equal(b.Disk(), ops) {
		t.Errorf("P8: the disk is %v, want as it was", b.Disk())
	}
	release(t, b, "a")
}

// opsOf tells how many operations the story's calls do, each.
func opsOf(t *testing.T) []int {
	t.Helper()
	b := stage(t)
	var counts []int
	was := 0
	for _, c := range story() {
		wantErrno(t, "P8: "+c.name, c.do(b), api.OK)
		counts = append(counts, len(b.Disk())-was)
		was = len(b.Disk())
	}
	return counts
}

// One operation fails, at each place over all calls: just the call that it is of
// answers ErrDisk, and when that is called once more all goes on as if nothing
// had been.
func TestFailAtEachPlaceOfTheStory(t *testing.T) {
	counts := opsOf(t)
	ends := stage(t)
	for _, c := range story() {
		c.do(ends)
	}
	place := 0
	for which, count := range counts {
		for n := range count {
			b := stage(t)
			b.FailAt(place + n)
			for i, c := range story() {
				if i == which {
					failOnce(t, b, c, n)
				}
				wantErrno(t, "P8: beside the one that fails", c.do(b), api.OK)
			}
			wantBoxes(t, "P8: at the end", b, ends.Boxes()...)
			wantFree(t, "P8: at the end", b, ends.Free())
		}
		place += count
	}
}

func failOnce(t *testing.T, b *berth.Berth, c call, n int) {
	t.Helper()
	boxes, free, ops := b.Boxes(), b.Free(), b.Disk()
	wantErrno(t, "P8: the one that fails", c.do(b), api.ErrDisk)
	wantBoxes(t, "P8: as it was", b, boxes...)
	wantFree(t, "P8: as it was", b, free)
	now := b.Disk()
	if len(now) != len(ops)+n || !slices.Equal(now[:len(ops)], ops) {
		t.Errorf("P8: %d operations ahead of the one that fails: %v was %v", n, now, ops)
	}
}

// A box that can't be written moves none of the others, wherever its name would
// stand among theirs.
func TestBoxesStayWhereOneFails(t *testing.T) {
	names := []string{"h", "g", "f", "e", "d", "c", "b", "a"}
	b := start(t, eight(api.None))
	var want []api.Box
	for number, name := range names {
		for n := range 4 {
			b.FailAt(n)
			refuseToWrite(t, b, name, want)
		}
		admit(t, b, name, need(1), grant([]int{number}))
		want = slices.Insert(want, 0, box(name, grant([]int{number})))
		wantBoxes(t, "P7: by their names", b, want...)
	}
	for range names {
		b.FailAt(0)
		wantErrno(t, "P6: Release", b.Release(want[0].Name), api.ErrDisk)
		wantBoxes(t, "P8: as it was", b, want...)
		release(t, b, want[0].Name)
		want = want[1:]
	}
}

func refuseToWrite(t *testing.T, b *berth.Berth, name string, want []api.Box) {
	t.Helper()
	g, errno := b.Admit(name, need(1))
	if errno != api.ErrDisk || !sameGrant(g, api.Grant{}) {
		t.Errorf("P8: Admit that can't be written: %v, %d", g, errno)
	}
	wantBoxes(t, "P8: as it was", b, want...)
}

func TestFailAtCalledAgain(t *testing.T) {
	b := stage(t)
	b.FailAt(0)
	b.FailAt(-1)
	wantErrno(t, "P8: FailAt(-1)", call{"a", need(1)}.do(b), api.OK)
	b.FailAt(0)
	b.FailAt(math.MinInt)
	wantErrno(t, "P8: FailAt of the least", call{"b", need(1)}.do(b), api.OK)
	b.FailAt(math.MaxInt)
	wantErrno(t, "P8: FailAt of the greatest", b.Release("a"), api.OK)
	b.FailAt(0)
	wantErrno(t, "P8: FailAt(0)", b.Release("b"), api.ErrDisk)
	b.FailAt(0)
	wantErrno(t, "P8: FailAt(0) again", b.Release("b"), api.ErrDisk)
	b.FailAt(2)
	wantErrno(t, "P8: nothing is to be done", b.Release("a"), api.ErrNone)
	b.FailAt(1)
	wantErrno(t, "P8: FailAt(1) in place of FailAt(2)", b.Release("b"), api.ErrDisk)
	release(t, b, "b")
	wantBoxes(t, "P6: none", b)
}

func TestDiskIsNewMemory(t *testing.T) {
	b := stage(t)
	admit(t, b, "a", need(1), grant([]int{0}))
	first, second := b.Disk(), b.Disk()
	want := slices.Clone(first)
	whole := first[:cap(first)]
	for i := range whole {
		whole[i] = api.Op{Kind: 9}
	}
	if !slices.Equal(second, want) || !slices.Equal(b.Disk(), want) {
		t.Errorf("P2: the disk hangs on what came out: %v, %v", second, b.Disk())
	}
	release(t, b, "a")
	if got := b.Disk(); !slices.Equal(got[:len(want)], want) {
		t.Errorf("P2: the disk is %v, had been %v", got, want)
	}
}

// epoch is a call that did operations: where they begin and end in the disk's
// list, what the file says behind it, and whether it was done.
type epoch struct {
	first, end int
	text       string
	done       bool
}

// tell does the story with operations that fail, each call until it is done.
func tell(t *testing.T, fails []int) (*berth.Berth, []epoch) {
	t.Helper()
	b, twin := stage(t), stage(t)
	epochs := []epoch{{text: checkpoint.Text(nil), done: true}}
	for _, c := range story() {
		wantErrno(t, "P8: the twin", c.do(twin), api.OK)
		most := len(fails) + 1 // tries: the last FailAt may fail one that comes later
		for done := false; !done; most-- {
			if len(fails) > 0 {
				b.FailAt(fails[0])
				fails = fails[1:]
			}
			first := len(b.Disk())
			errno := c.do(b)
			done = errno == api.OK
			if !done && most < 0 {
				t.Fatalf("P8: nothing is to fail any more, but %v is answered by %d", c, errno)
			}
			epochs = append(epochs, epoch{first, len(b.Disk()), checkpoint.Text(twin.Boxes()), done})
		}
	}
	return b, epochs
}

// mayBeLeft lists what the file may say behind so many operations: what it said
// behind the last call that was done with all of these, or behind one that came
// later and of which there is one or more.
func mayBeLeft(epochs []epoch, ops int) []string {
	var texts []string
	for _, e := range epochs {
		switch {
		case e.done && e.end <= ops:
			texts = []string{e.text}
		case e.first < ops && e.end > e.first:
			texts = append(texts, e.text)
		}
	}
	return texts
}

// Whenever all is lost, what is left is who had what behind the last change that
// was done, or that with one that was under way.
func TestWhatIsLeft(t *testing.T) {
	for fail := range 6 {
		for next := range 6 {
			for times := range 3 {
				fails := slices.Concat(slices.Repeat([]int{fail}, times), []int{next})
				b, epochs := tell(t, fails)
				checkLeft(t, b.Disk(), epochs)
			}
		}
	}
}

func checkLeft(t *testing.T, ops []api.Op, epochs []epoch) {
	t.Helper()
	p := newPlatter()
	for n := 0; ; n++ {
		allowed := mayBeLeft(epochs, n)
		for _, file := range p.left(checkpoint.File) {
			// No file says that there are no boxes.
			text := file.text
			if !file.there {
				text = checkpoint.Text(nil)
			}
			if !slices.Contains(allowed, text) {
				t.Errorf("P8: behind %v may be left %q, want one of %q", ops[:n], text, allowed)
			}
		}
		if n == len(ops) {
			return
		}
		p.do(ops[n])
	}
}
