package berth_test

import (
	"math"
	"math/rand/v2"
	"slices"
	"strings"
	"testing"

	"berth/api"
	"berth/berth"
	"berth/checkpoint"
)

// maybeSound holds boxes against P10.
func maybeSound(m api.Machine, boxes []api.Box) bool {
	var owners [1 + api.MaxKinds][api.MaxCPUs]int
	names := map[string]int{}
	sound := len(boxes) <= api.MaxBoxes
	for _, box := range boxes {
		names[box.Name]++
		any := false
		for resource, numbers := range slices.Insert(box.Grant.Devices[:], 0, box.Grant.CPUs) {
			last := -1
			for _, number := range numbers {
				any = true
				if number <= last || resource == 0 && number >= len(m.CPUs) || resource > 0 && number >= api.MaxDevices {
					return false
				}
				last = number
				owners[resource][number]++
				sound = sound && owners[resource][number] == 1 && (resource > 0 || !slices.Contains(m.Reserved, number))
			}
		}
		sound = sound && any && names[box.Name] == 1 && len(box.Name) >= 1 && len(box.Name) <= api.MaxName
	}
	return sound
}

// wantSound holds what comes of any files against P10, and tells whether they are
// said to be damaged.
func wantSound(t *testing.T, m api.Machine, files []api.File, running []string) bool {
	t.Helper()
	b, damaged, errno := berth.Restart(m, files, running)
	if b == nil || errno != api.OK {
		t.Fatalf("P10: Restart with %v: %d, want a berth", files, errno)
	}
	boxes := b.Boxes()
	if damaged && len(boxes) > 0 || !maybeSound(m, boxes) || len(thoseOf(boxes, running)) != len(boxes) {
		t.Errorf("P10: Restart with %v: %v, and boxes %v", files, damaged, boxes)
	}
	if damaged && len(b.Disk()) != 0 {
		t.Errorf("P9: none was left out, but %v was done", b.Disk())
	}
	return damaged
}

func wantDamaged(t *testing.T, m api.Machine, files ...api.File) {
	t.Helper()
	for _, running := range [][]string{allNames, {"a"}, nil} {
		if !wantSound(t, m, files, running) {
			t.Errorf("P10: Restart with %v: not damaged", files)
		}
	}
}

// boxesFile is the file that tells who has what, with these bytes.
func boxesFile(bytes string) api.File {
	return api.File{Name: checkpoint.File, Bytes: bytes}
}

// wrongs lists what comes of a text by one wrong byte, or by a cut.
func wrongs(text string) []string {
	var all []string
	for i := range len(text) {
		all = append(all, text[:i], text[i+1:], text[:i]+text[i+1:])
		for _, turned := range []byte{text[i] + 1, text[i] - 1, text[i] ^ 32, text[i] ^ 128, '0', '9', ',', '-', ' ', '\n', '"'} {
			if turned != text[i] {
				all = append(all, text[:i]+string([]byte{turned})+text[i+1:])
			}
			all = append(all, text[:i]+string([]byte{turned})+text[i:])
		}
	}
	return append(all, text+"\n", text+" ", text+"\x00", text+text)
}

func TestRestartWithOneWrongByte(t *testing.T) {
	files := filesOf(t, nil, four(t))
	if len(files) != 1 {
		t.Fatalf("P8: the files are %v, want one", files)
	}
	for _, bytes := range wrongs(files[0].Bytes) {
		wantDamaged(t, eight(api.Single, 5), api.File{Name: files[0].Name, Bytes: bytes})
	}
	for _, bytes := range wrongs(checkpoint.Text(nil)) {
		wantDamaged(t, eight(api.None), boxesFile(bytes))
	}
}

// The bytes of what a change has written so far are nobody's, wrong or right.
func TestRestartWithAWrongByteBeside(t *testing.T) {
	m := eight(api.Single, 5)
	b := four(t)
	b.FailAt(2)
	wantErrno(t, "P8: Release", b.Release("a"), api.ErrDisk)
	all := leftOf(nil, b)
	files := all[len(all)-1]
	if len(files) != 2 || files[0].Name != checkpoint.File {
		t.Fatalf("P8: the files are %v, want two", files)
	}
	for _, bytes := range wrongs(files[1].Bytes) {
		b := restart(t, m, []api.File{{Name: files[1].Name, Bytes: bytes}, files[0]}, allNames)
		wantBoxes(t, "P9: as they were", b, boxesOfFour()...)
	}
}

func TestRestartWithTwoFilesOfOneName(t *testing.T) {
	text := checkpoint.Text(boxesOfFour())
	for _, other := range []string{text, checkpoint.Text(boxesOfFour()[:1]), checkpoint.Text(nil), "", "x"} {
		wantDamaged(t, eight(api.Single, 5), boxesFile(text), boxesFile(other))
		wantDamaged(t, eight(api.Single, 5), boxesFile(other), api.File{Name: "x"}, boxesFile(text))
	}
	wantDamaged(t, eight(api.None), slices.Repeat([]api.File{boxesFile(checkpoint.Text(nil))}, 1000)...)
}

func TestRestartWithFilesOfAnotherMachine(t *testing.T) {
	files := filesOf(t, nil, four(t))
	few := eight(api.Single)
	few.CPUs = few.CPUs[:7]
	for _, m := range []api.Machine{
		few, {CPUs: make([]api.CPU, 1)}, eight(api.Single, 0), eight(api.None, 7), eight(api.Single, 2, 5), eight(api.Single, allEight...),
	} {
		wantDamaged(t, m, files...)
	}
	// Where the boxes may be on the other machine too, they are.
	other := spread(2, 3, 4, 5)
	other.Reserved = []int{3, 5, 8, 13}
	for _, m := range []api.Machine{eight(api.None), eight(api.BestEffort, 3), other, {CPUs: make([]api.CPU, 8)}} {
		wantSound(t, m, files, []string{"a"})
		wantBoxes(t, "P9: as they were", restart(t, m, files, allNames), boxesOfFour()...)
	}
}

// wrongBoxes lists what can't be on the machine of the examples, of which CPU 5 is
// reserved, though each box has another name and they stand in order.
func wrongBoxes() map[string][]api.Box {
	mine, theirs := box("a", grant([]int{1, 2}, []int{0})), box("b", grant([]int{4}, nil, []int{3}))
	return map[string][]api.Box{
		"what is reserved":       {mine, box("b", grant([]int{4, 5}))},
		"a CPU of another":       {mine, box("b", grant([]int{2, 3}))},
		"a device of another":    {mine, theirs, box("c", grant([]int{7}, []int{1}, []int{3}))},
		"no such CPU":            {box("a", grant([]int{7, 8}))},
		"no CPU may be so":       {box("a", grant([]int{api.MaxCPUs}))},
		"a CPU below 0":          {box("a", grant([]int{-1, 0}))},
		"the greatest CPU":       {box("a", grant([]int{0, math.MaxInt}))},
		"the least CPU":          {box("a", grant([]int{math.MinInt}))},
		"no device may be so":    {box("a", grant([]int{1}, nil, nil, []int{api.MaxDevices}))},
		"a device below 0":       {box("a", grant(nil, []int{-1}))},
		"the greatest device":    {box("a", grant(nil, nil, []int{math.MaxInt}))},
		"a CPU twice":            {box("a", grant([]int{1, 1}))},
		"a device twice":         {box("a", grant(nil, []int{2, 2}))},
		"CPUs by falling":        {box("a", grant([]int{2, 1}))},
		"devices by falling":     {box("a", grant([]int{2}, []int{0, 2, 1}))},
		"nothing":                {mine, box("b", grant(nil))},
		"nothing and alone":      {box("a", grant(nil))},
		"more CPUs than are":     {box("a", grant(append(allEight[:8:8], 0)))},
		"no name":                {box("", grant([]int{1}))},
		"a long name":            {mine, box(strings.Repeat("b", api.MaxName+1), grant([]int{4}))},
		"a very long name":       {box(strings.Repeat("\x00", 100000), grant([]int{4}))},
		"a name twice":           {mine, box("a", grant([]int{4}))},
		"names by falling":       {theirs, mine},
		"one of many that is no": {mine, theirs, box("c", grant([]int{0})), box("d", grant([]int{3})), box("e", grant([]int{4}))},
	}
}

func tooMany() []api.Box {
	var boxes []api.Box
	for i := range api.MaxBoxes + 1 {
		boxes = append(boxes, box(string(rune('a'+i)), grant([]int{i})))
	}
	return boxes
}

func TestRestartWithWrongBoxes(t *testing.T) {
	for what, boxes := range wrongBoxes() {
		if maybeSound(eight(api.None, 5), boxes) && what != "names by falling" {
			t.Errorf("P10: %s: the test's own look finds nothing wrong", what)
		}
		wantDamaged(t, eight(api.None, 5), boxesFile(checkpoint.Text(boxes)))
	}
	wantDamaged(t, spread(6, 6, 6, 6), boxesFile(checkpoint.Text(tooMany())))
	wantBoxes(t, "P9: the most", restart(t, spread(6, 6, 6, 6), []api.File{boxesFile(checkpoint.Text(tooMany()[:api.MaxBoxes]))},
		[]string{"l", "b"}), tooMany()[1], tooMany()[api.MaxBoxes-1])
}

// At the limits all is well.
func TestRestartWithBoxesAtTheLimits(t *testing.T) {
	most := spread(6, 6, 6, 6)
	for _, boxes := range [][]api.Box{
		nil,
		{box(strings.Repeat("\xff", api.MaxName), most24())},
		{box("\x00", grant([]int{0})), box("é", grant([]int{23}, []int{15}, []int{0}, []int{0, 15}))},
	} {
		b := restart(t, most, []api.File{boxesFile(checkpoint.Text(boxes))}, allNames)
		wantBoxes(t, "P9: at the limits", b, boxes...)
	}
}

// most24 is all that a machine can have.
func most24() api.Grant {
	var g api.Grant
	for number := range api.MaxCPUs {
		g.CPUs = append(g.CPUs, number)
	}
	for kind := range g.Devices {
		g.Devices[kind] = slices.Clone(g.CPUs[:api.MaxDevices])
	}
	return g
}

// anyBoxes lists boxes by their names that may be, or nearly so.
func anyBoxes(r *rand.Rand) []api.Box {
	var boxes []api.Box
	for _, name := range []string{"a", "ab", "b", "c"} {
		var g api.Grant
		for number := range 9 {
			if r.IntN(6) == 0 {
				g.CPUs = append(g.CPUs, number)
			}
			for kind := range g.Devices {
				if r.IntN(30) == 0 {
					g.Devices[kind] = append(g.Devices[kind], number*2)
				}
			}
		}
		if r.IntN(2) == 0 {
			boxes = append(boxes, box(name, g))
		}
	}
	return boxes
}

func TestRestartWithAnyBoxes(t *testing.T) {
	r := rand.New(rand.NewPCG(9, 10))
	sound := 0
	for range 20000 {
		boxes := anyBoxes(r)
		m := eight(api.None, []int{r.IntN(8)}[:r.IntN(2)]...)
		files := []api.File{boxesFile(checkpoint.Text(boxes))}
		damaged := wantSound(t, m, files, allNames)
		if damaged == maybeSound(m, boxes) {
			t.Errorf("P10: %v on %v: damaged is %v", boxes, m, damaged)
		}
		if !damaged {
			sound++
			wantBoxes(t, "P9: just these", restart(t, m, files, allNames), boxes...)
		}
		wantSound(t, m, files, anyRunning(r))
	}
	if sound < 1000 || sound > 19000 {
		t.Errorf("the test is of no worth: %d of 20000 may be", sound)
	}
}

func TestRestartWithAnyBytes(t *testing.T) {
	r := rand.New(rand.NewPCG(11, 12))
	pieces := []string{"boxes ", "1", "0", "2,3", " ", "-", ",", "\n", "\"a\"", "\"", "cbf29ce484222325", "\xff", "\x00", "99999999999999999999"}
	for range 20000 {
		var bytes strings.Builder
		for range r.IntN(12) {
			bytes.WriteString(pieces[r.IntN(len(pieces))])
		}
		wantDamaged(t, eight(api.None), boxesFile(bytes.String()))
	}
	for _, piece := range pieces {
		wantDamaged(t, eight(api.None), boxesFile(strings.Repeat(piece, 100000)))
		wantDamaged(t, eight(api.None), boxesFile("boxes 1 cbf29ce484222325\n"+strings.Repeat(piece, 100000)))
	}
}

// A berth of what can't be believed works as any, and once a change is done there
// is nothing more that can't.
func TestChangesBehindDamage(t *testing.T) {
	m := eight(api.Single)
	files := []api.File{boxesFile("x"), {Name: checkpoint.File + ".new", Bytes: "y"}, {Name: "z", Bytes: "z"}}
	b, damaged, errno := berth.Restart(m, files, []string{"a"})
	if b == nil || !damaged || errno != api.OK {
		t.Fatalf("P10: %v, %d, want a berth and true", damaged, errno)
	}
	wantFree(t, "P10: as Start gives one", b, grant(allEight))
	refuse(t, b, "a", need(9), api.ErrFew)
	b.FailAt(2)
	refuseToWrite(t, b, "a", nil)
	for _, left := range leftOf(files, b) {
		wantSound(t, m, left, allNames)
	}
	admit(t, b, "a", need(2), grant([]int{0, 1}))
	left := filesOf(t, files, b)
	wantBoxes(t, "P9: behind the change", restart(t, m, left, allNames), box("a", grant([]int{0, 1})))
	if !slices.Contains(left, files[2]) {
		t.Errorf("P9: the files are %v, want another's among them", left)
	}
}

func TestRestartNoMachine(t *testing.T) {
	split, torn := eight(api.None), eight(api.None)
	split.CPUs[1].Node = 1
	torn.CPUs[3].Socket = 1
	all := [][]api.File{nil, filesOf(t, nil, four(t)), {boxesFile("x")}, {boxesFile(""), boxesFile("")}, {{Name: "other"}}}
	for _, boxes := range wrongBoxes() {
		all = append(all, []api.File{boxesFile(checkpoint.Text(boxes))})
	}
	for _, m := range []api.Machine{
		{}, spread(7, 6, 6, 6), spread(1, 1, 1, 1, 1), split, torn, eight(api.None, 0, 8), eight(api.None, -1),
		eight(api.None, 4, 4), eight(api.None, 4, 3), eight(api.Single + 1), eight(-1),
	} {
		for _, files := range all {
			for _, running := range [][]string{nil, allNames} {
				b, damaged, errno := berth.Restart(m, files, running)
				wantErrno(t, "P9: no machine", errno, api.ErrMachine)
				if b != nil || damaged {
					t.Errorf("P1: %v with %v: %v and %v beside the error", m, files, b, damaged)
				}
			}
		}
	}
}
