package berth_test

import (
	"math/rand/v2"
	"slices"
	"testing"

	"berth/api"
	"berth/berth"
	"berth/checkpoint"
)

// epoch is a Start, Restart, Admit or Release: where its operations begin and end
// in the disk's list, the boxes that there are behind it or would be, and whether
// it was done.
type epoch struct {
	first, end int
	boxes      []api.Box
	done       bool
}

// history is a berth, the files that it was given, and what was done.
type history struct {
	m      api.Machine
	files  []api.File
	b      *berth.Berth
	epochs []epoch
}

// anew begins a history: files may be left of another.
func anew(t *testing.T, m api.Machine, files []api.File, running []string) *history {
	t.Helper()
	told := restart(t, m, files, allNames).Boxes()
	b := restart(t, m, files, running)
	kept := thoseOf(told, running)
	wantBoxes(t, "P9: those that run", b, kept...)
	ops := len(b.Disk())
	if (ops > 0) != (len(kept) < len(told)) {
		t.Errorf("P9: of %v run %q: the Restart did %v", told, running, b.Disk())
	}
	h := &history{m: m, files: files, b: b, epochs: []epoch{{boxes: told, done: true}, {end: ops, boxes: kept, done: true}}}
	h.registerAll(t, b)
	return h
}

func (h *history) registerAll(t *testing.T, b *berth.Berth) {
	t.Helper()
	for kind := range api.MaxKinds {
		register(t, b, kind, healthyIn(0, 1, 1, 0))
	}
}

// twin is a berth that has the same boxes and nothing that fails.
func (h *history) twin(t *testing.T) *berth.Berth {
	t.Helper()
	file := api.File{Name: checkpoint.File, Bytes: checkpoint.Text(h.b.Boxes())}
	b := restart(t, h.m, []api.File{file}, allNames)
	h.registerAll(t, b)
	return b
}

// do lets a call be done, or fail, and tells which.
func (h *history) do(t *testing.T, c call) bool {
	t.Helper()
	twin := h.twin(t)
	would := c.do(twin)
	first := len(h.b.Disk())
	errno := c.do(h.b)
	if errno != would && errno != api.ErrDisk {
		t.Errorf("P9: %v is answered by %d, by %d of a twin with the same boxes", c, errno, would)
	}
	if errno == api.OK || errno == api.ErrDisk {
		h.epochs = append(h.epochs, epoch{first, len(h.b.Disk()), twin.Boxes(), errno == api.OK})
	}
	return errno == api.OK
}

// mayBe lists which boxes there may be when all is lost behind so many
// operations: those behind the last epoch that was done with all of its
// operations, or behind one that came later and has one or more among these.
func (h *history) mayBe(ops int) [][]api.Box {
	var all [][]api.Box
	for _, e := range h.epochs {
		switch {
		case e.done && e.end <= ops:
			all = [][]api.Box{e.boxes}
		case e.first < ops && e.end > e.first:
			all = append(all, e.boxes)
		}
	}
	return all
}

// eachLeft goes through all that may be left behind each first few operations.
func (h *history) eachLeft(look func(ops int, files []api.File)) {
	p := platterOf(h.files)
	ops := h.b.Disk()
	for n := 0; ; n++ {
		for _, files := range p.left() {
			look(n, files)
		}
		if n == len(ops) {
			return
		}
		p.do(ops[n])
	}
}

// check has each of them read again, with all names running and with these.
func (h *history) check(t *testing.T, running []string) {
	t.Helper()
	h.eachLeft(func(ops int, files []api.File) {
		b := restart(t, h.m, files, allNames)
		got := b.Boxes()
		if !slices.ContainsFunc(h.mayBe(ops), func(boxes []api.Box) bool { return sameBoxes(boxes, got) }) {
			t.Fatalf("P9: of %v, behind %d of %v, come %v, want one of %v", files, ops, h.b.Disk(), got, h.mayBe(ops))
		}
		if len(b.Disk()) != 0 {
			t.Errorf("P9: all run, but %v was done", b.Disk())
		}
		some := restart(t, h.m, files, running)
		wantBoxes(t, "P9: the same, but for which run", some, thoseOf(got, running)...)
	})
}

// Each way in which the calls of a story fail, until they are done; whenever all
// is lost, there is what was behind the last change that was done, or that with
// one that was under way.
func TestWhatIsLeft(t *testing.T) {
	for fail := range 6 {
		for next := range 6 {
			for times := range 3 {
				h := anew(t, eight(api.None), nil, nil)
				h.tell(t, slices.Concat(slices.Repeat([]int{fail}, times), []int{next}))
				h.check(t, []string{"c", "a"})
			}
		}
	}
}

func (h *history) tell(t *testing.T, fails []int) {
	t.Helper()
	for _, c := range story() {
		most := len(fails) + 1 // tries: the last FailAt may fail one that comes later
		for done := false; !done; most-- {
			if len(fails) > 0 {
				h.b.FailAt(fails[0])
				fails = fails[1:]
			}
			done = h.do(t, c)
			if !done && most < 0 {
				t.Fatalf("P8: nothing is to fail any more, but %v isn't done", c)
			}
		}
	}
}

// All is lost behind each operation of a Restart that leaves boxes out, also when
// a call that failed is still under way on the disk that it is given.
func TestWhatIsLeftOfARestart(t *testing.T) {
	for fail := range 5 {
		h := anew(t, eight(api.Single), nil, nil)
		for _, name := range []string{"a", "b", "c"} {
			h.do(t, call{name, need(1, 0, 1)})
		}
		h.b.FailAt(fail)
		h.do(t, call{"d", need(2)})
		h.eachLeft(func(ops int, files []api.File) {
			for _, running := range [][]string{nil, {"a"}, {"c", "d"}, {"b", "c", "a"}} {
				anew(t, h.m, files, running).check(t, []string{"b"})
			}
		})
	}
}

// anyCall is a call that may be refused too.
func anyCall(r *rand.Rand) call {
	name := allNames[r.IntN(len(allNames))]
	if r.IntN(5) < 2 {
		return call{name: name}
	}
	return call{name, need(1+r.IntN(3), r.IntN(2), r.IntN(2), r.IntN(2))}
}

// anyRunning lists all names, or none, or some, and some that no box has.
func anyRunning(r *rand.Rand) []string {
	switch r.IntN(4) {
	case 0:
		return allNames
	case 1:
		return []string{"", "nobody", allNames[0] + "\x00"}[:r.IntN(4)]
	}
	var running []string
	for range 1 + r.IntN(2*len(allNames)) {
		running = append(running, allNames[r.IntN(len(allNames))])
	}
	return running
}

// Restart again and again on what is left, with calls between that are done, and
// that fail.
func TestRestartAgainAndAgain(t *testing.T) {
	r := rand.New(rand.NewPCG(5, 6))
	for trial := range 60 {
		m := eight(trial%4, []int{trial % 8}[:trial%2]...)
		files := []api.File{{Name: "another's", Bytes: "bytes"}}[:trial%2]
		for range 5 {
			h := anew(t, m, files, anyRunning(r))
			for range r.IntN(6) {
				if r.IntN(2) == 0 {
					h.b.FailAt(r.IntN(7) - 1)
				}
				h.do(t, anyCall(r))
			}
			h.check(t, anyRunning(r))
			var all [][]api.File
			h.eachLeft(func(_ int, files []api.File) { all = append(all, files) })
			files = all[r.IntN(len(all))]
			r.Shuffle(len(files), func(i, j int) { files[i], files[j] = files[j], files[i] })
		}
		if t.Failed() {
			t.Fatalf("the machine was %v", m)
		}
	}
}
