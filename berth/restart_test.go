package berth_test

import (
	"math/rand/v2"
	"slices"
	"strconv"
	"strings"
	"testing"
	"unsafe"

	"berth/api"
	"berth/berth"
	"berth/checkpoint"
)

// leftOf lists all that may be left of a berth's disk behind all operations.
func leftOf(given []api.File, b *berth.Berth) [][]api.File {
	p := platterOf(given)
	for _, op := range b.Disk() {
		p.do(op)
	}
	return p.left()
}

// filesOf lists the files of a berth whose last change was done: nothing of it can
// be lost.
func filesOf(t *testing.T, given []api.File, b *berth.Berth) []api.File {
	t.Helper()
	all := leftOf(given, b)
	if len(all) != 1 {
		t.Fatalf("P8: behind the last change may be left %v, want one thing alone", all)
	}
	return all[0]
}

// four is a berth of four boxes on the machine of the examples, with devices.
func four(t *testing.T) *berth.Berth {
	t.Helper()
	b := start(t, eight(api.Single, 5))
	register(t, b, 0, healthyIn(0, 1))
	register(t, b, 2, healthyIn(0, 0, 0))
	admit(t, b, "c", need(2, 1), grant([]int{0, 1}, []int{0}))
	admit(t, b, "a", need(1, 0, 0, 2), grant([]int{2}, nil, nil, []int{0, 1}))
	admit(t, b, "d", need(0, 0, 0, 1), grant(nil, nil, nil, []int{2}))
	admit(t, b, "b", need(3), grant([]int{4, 6, 7}))
	return b
}

func boxesOfFour() []api.Box {
	return []api.Box{
		box("a", grant([]int{2}, nil, nil, []int{0, 1})),
		box("b", grant([]int{4, 6, 7})),
		box("c", grant([]int{0, 1}, []int{0})),
		box("d", grant(nil, nil, nil, []int{2})),
	}
}

func TestRestartWithoutFiles(t *testing.T) {
	for _, files := range [][]api.File{
		nil,
		{},
		{{Name: "", Bytes: ""}},
		{{Name: "other", Bytes: "boxes 1\n"}},
		{{Name: "Boxes", Bytes: "\xff"}, {Name: "boxes ", Bytes: checkpoint.Text(boxesOfFour())}, {Name: "\x00boxes", Bytes: ""}},
		{{Name: "x", Bytes: "1"}, {Name: "x", Bytes: "2"}},
	} {
		for policy := api.None; policy <= api.Single; policy++ {
			b := restart(t, eight(policy, 3), files, allNames)
			wantBoxes(t, "P9: no boxes", b)
			wantFree(t, "P9: no devices", b, grant([]int{0, 1, 2, 4, 5, 6, 7}))
			if len(b.Disk()) != 0 {
				t.Errorf("P9: nothing was left out, but %v was done", b.Disk())
			}
			admit(t, b, "a", need(2), grant([]int{0, 1}))
		}
	}
}

func TestRestartWithAllRunning(t *testing.T) {
	files := filesOf(t, nil, four(t))
	for _, running := range [][]string{
		{"a", "b", "c", "d"},
		{"d", "c", "b", "a", "a", "d"},
		{"", "a", "aa", "nobody", "b", strings.Repeat("c", 99), "c", "d"},
	} {
		b := restart(t, eight(api.Single, 5), files, running)
		wantBoxes(t, "P9: all", b, boxesOfFour()...)
		wantFree(t, "P9: all but what is owned", b, grant([]int{3}))
		if len(b.Disk()) != 0 {
			t.Errorf("P9: nothing was left out, but %v was done", b.Disk())
		}
	}
}

func TestRestartWithSomeRunning(t *testing.T) {
	m := eight(api.Single, 5)
	files := filesOf(t, nil, four(t))
	all := boxesOfFour()
	for _, c := range []struct {
		running []string
		want    []api.Box
		free    []int
	}{
		{nil, nil, []int{0, 1, 2, 3, 4, 6, 7}},
		{[]string{"", "e", "A", "a\x00", " a"}, nil, []int{0, 1, 2, 3, 4, 6, 7}},
		{[]string{"c", "x", "a", "c"}, []api.Box{all[0], all[2]}, []int{3, 4, 6, 7}},
		{[]string{"b", "c", "d"}, all[1:], []int{2, 3}},
		{[]string{"d"}, all[3:], []int{0, 1, 2, 3, 4, 6, 7}},
	} {
		b := restart(t, m, files, c.running)
		wantBoxes(t, "P9: those that run", b, c.want...)
		wantFree(t, "P9: what the others owned is nobody's", b, grant(c.free))
		behind := restart(t, m, filesOf(t, files, b), allNames)
		wantBoxes(t, "P9: the others are no more on the disk", behind, c.want...)
		wantBoxes(t, "P9: of the files ahead of that the same", restart(t, m, files, allNames), all...)
	}
}

// P3 to P8 hold for what Restart gives.
func TestCallsBehindARestart(t *testing.T) {
	files := filesOf(t, nil, four(t))
	b := restart(t, eight(api.Single, 5), files, []string{"a", "b", "d"})
	refuse(t, b, "e", need(0, 1), api.ErrFew)
	register(t, b, 0, healthyIn(0, 1))
	register(t, b, 2, healthyIn(1, 1, 1, 1))
	wantFree(t, "P9: what is owned stays owned", b, grant([]int{0, 1, 3}, []int{0, 1}, nil, []int{3}))
	wantWidth(t, b, need(4, 2, 1, 4), [4]int{1, 2, -1, 1})
	refuse(t, b, "a", need(1), api.ErrTwice)
	refuse(t, b, "e", need(0, 0, 0, 2), api.ErrFew)
	refuse(t, b, "e", need(1, 0, 0, 1), api.ErrNode)
	ops := len(b.Disk())
	b.FailAt(1)
	wantErrno(t, "P8: Release", b.Release("d"), api.ErrDisk)
	if len(b.Disk()) != ops+1 {
		t.Errorf("P8: %d operations, want one behind %d", len(b.Disk()), ops)
	}
	release(t, b, "d")
	wantErrno(t, "P6: Release of one left out", b.Release("c"), api.ErrNone)
	wantErrno(t, "P4: Health", b.Health(2, 2, false), api.OK)
	wantFree(t, "P6: nobody's", b, grant([]int{0, 1, 3}, []int{0, 1}, nil, []int{3}))
	admit(t, b, "c", need(2, 1), grant([]int{0, 1}, []int{0}))
	c := box("c", grant([]int{0, 1}, []int{0}))
	wantBoxes(t, "P7: by their names", b, boxesOfFour()[0], boxesOfFour()[1], c)
	behind := restart(t, eight(api.Single, 5), filesOf(t, files, b), allNames)
	wantBoxes(t, "P9: once more", behind, boxesOfFour()[0], boxesOfFour()[1], c)
}

func TestManyCallsAndRestarts(t *testing.T) {
	r := rand.New(rand.NewPCG(7, 8))
	for range 60 {
		m := &model{m: anyMachine(r)}
		b := start(t, m.m)
		var files []api.File
		for range 6 {
			for range 30 {
				m.walk(t, r, b)
			}
			files = filesOf(t, files, b)
			var running []string
			for number := range 16 {
				if r.IntN(4) > 0 {
					running = append(running, string(rune('a'+number)))
				}
			}
			b = restart(t, m.m, files, running)
			m.boxes = thoseOf(m.boxes, running)
			m.devices = [api.MaxKinds][]api.Device{}
			wantBoxes(t, "P9: those that run", b, m.sorted()...)
			wantFree(t, "P9: what they don't own", b, m.free())
		}
		if t.Failed() {
			t.Fatalf("the machine was %v", m.m)
		}
	}
}

func TestRestartTheMostBoxes(t *testing.T) {
	b := crowd(t)
	boxes := b.Boxes()
	m := spread(12, 12)
	back := restart(t, m, filesOf(t, nil, b), []string{"l", "k", "j", "i", "h", "g", "f", "e", "d", "c", "b", "a"})
	wantBoxes(t, "P9: all", back, boxes...)
	refuse(t, back, "z", need(1), api.ErrMany)
}

// P2: what is handed in is neither written into nor kept.
func TestRestartLeavesItsArgumentsAlone(t *testing.T) {
	m := eight(api.Single, 5)
	m.Reserved = append(make([]int, 0, 4), 5)
	files := append(make([]api.File, 0, 9), filesOf(t, nil, four(t))...)
	files = append(files, api.File{Name: "other", Bytes: "x"})
	running := append(make([]string, 0, 9), "d", "a", "x")
	wholeFiles, wholeRunning := files[:cap(files)], running[:cap(running)]
	filesAhead, runningAhead := slices.Clone(wholeFiles), slices.Clone(wholeRunning)

	b := restart(t, m, files, running)
	if !slices.Equal(wholeFiles, filesAhead) || !slices.Equal(wholeRunning, runningAhead) {
		t.Errorf("P2: written into: %v, %v", wholeFiles, wholeRunning)
	}
	ops := b.Disk()
	clear(wholeFiles)
	clear(wholeRunning)
	clear(m.CPUs)
	overwrite(m.Reserved)
	wantBoxes(t, "P2: the lists written over", b, boxesOfFour()[0], boxesOfFour()[3])
	wantFree(t, "P2: the lists written over", b, grant([]int{0, 1, 3, 4, 6, 7}))
	if !slices.Equal(b.Disk(), ops) {
		t.Errorf("P2: the lists written over: %v", b.Disk())
	}
}

// liesIn tells whether a text is a piece of another, in the same room.
func liesIn(text, whole string) bool {
	at, first := uintptr(unsafe.Pointer(unsafe.StringData(text))), uintptr(unsafe.Pointer(unsafe.StringData(whole)))
	return len(text) > 0 && at >= first && at < first+uintptr(len(whole))
}

func TestRestartKeepsNoText(t *testing.T) {
	files := filesOf(t, nil, four(t))
	running := []string{strings.Clone("a"), strings.Clone("d")}
	for i := range files {
		files[i].Name, files[i].Bytes = strings.Clone(files[i].Name), strings.Clone(files[i].Bytes)
	}
	b := restart(t, eight(api.Single, 5), files, running)
	var kept []string
	for _, box := range b.Boxes() {
		kept = append(kept, box.Name)
	}
	for _, op := range b.Disk() {
		kept = append(kept, op.Name, op.To, op.Bytes)
	}
	for _, text := range kept {
		for _, file := range files {
			if liesIn(text, file.Name) || liesIn(text, file.Bytes) {
				t.Errorf("P2: kept is %q, a piece of the file %v", text, file)
			}
		}
		for _, name := range running {
			if liesIn(text, name) {
				t.Errorf("P2: kept is %q, a name that runs", text)
			}
		}
	}
}

// P2: what one berth does is nothing to another, of the same files either.
func TestRestartedBerthsAreApart(t *testing.T) {
	m := eight(api.Single, 5)
	files := filesOf(t, nil, four(t))
	one, other := restart(t, m, files, allNames), restart(t, m, files, allNames)
	one.FailAt(0)
	wantErrno(t, "P8: Release", one.Release("a"), api.ErrDisk)
	release(t, one, "b")
	register(t, one, 1, healthyIn(0))
	first := one.Boxes()
	for i := range first {
		overwrite(first[i].Grant.CPUs)
	}
	wantBoxes(t, "P2: the other", other, boxesOfFour()...)
	wantFree(t, "P2: the other", other, grant([]int{3}))
	if len(other.Disk()) != 0 {
		t.Errorf("P2: the disk of the other is %v", other.Disk())
	}
	release(t, other, "a")
	wantBoxes(t, "P2: the one", one, boxesOfFour()[0], boxesOfFour()[2], boxesOfFour()[3])
}

// P1: much of all; none of it is anybody's.
func TestRestartWithMuch(t *testing.T) {
	files := filesOf(t, nil, four(t))
	running := []string{"c", strings.Repeat("c", 1<<20), ""}
	for number := range 100000 {
		files = append(files, api.File{Name: strconv.Itoa(number), Bytes: strings.Repeat("x", number%100)})
		running = append(running, strconv.Itoa(number))
	}
	files = append(files, api.File{Name: strings.Repeat("boxes", 1<<18), Bytes: strings.Repeat("\x00", 1<<22)})
	slices.Reverse(files)
	b := restart(t, eight(api.Single, 5), files, running)
	wantBoxes(t, "P9: beside many files", b, boxesOfFour()[2])
}
