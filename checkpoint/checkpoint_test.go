package checkpoint

import (
	"slices"
	"strconv"
	"strings"
	"testing"

	"berth/api"
)

func box(name string, cpus []int, devices ...[]int) api.Box {
	b := api.Box{Name: name, Grant: api.Grant{CPUs: cpus}}
	copy(b.Grant.Devices[:], devices)
	return b
}

func TestText(t *testing.T) {
	for _, c := range []struct {
		boxes []api.Box
		want  string
	}{
		{nil, "boxes 0\n"},
		{[]api.Box{box("a", []int{0, 23}, []int{1}, nil, []int{2, 3, 15})}, "boxes 1\n0,23 1 - 2,3,15 \"a\"\n"},
		{[]api.Box{box("", nil, []int{}), box("\n \"\xff", []int{5})}, "boxes 2\n- - - - \"\"\n5 - - - \"\\n \\\"\\xff\"\n"},
	} {
		if got := Text(c.boxes); got != c.want {
			t.Errorf("P8: the text of %v is %q, want %q", c.boxes, got, c.want)
		}
	}
}

// read takes a text apart again, to show that all of the boxes is in it.
func read(t *testing.T, text string) []api.Box {
	t.Helper()
	lines := strings.Split(strings.TrimSuffix(text, "\n"), "\n")
	var boxes []api.Box
	for _, line := range lines[1:] {
		fields := strings.SplitN(line, " ", 2+api.MaxKinds)
		name, err := strconv.Unquote(fields[1+api.MaxKinds])
		if err != nil {
			t.Fatalf("P8: the line %q has no name: %v", line, err)
		}
		b := box(name, readList(t, fields[0]))
		for kind := range api.MaxKinds {
			b.Grant.Devices[kind] = readList(t, fields[1+kind])
		}
		boxes = append(boxes, b)
	}
	if lines[0] != "boxes "+strconv.Itoa(len(boxes)) {
		t.Errorf("P8: the text of %d boxes begins with %q", len(boxes), lines[0])
	}
	return boxes
}

func readList(t *testing.T, field string) []int {
	t.Helper()
	if field == "-" {
		return nil
	}
	var numbers []int
	for word := range strings.SplitSeq(field, ",") {
		number, err := strconv.Atoi(word)
		if err != nil {
			t.Fatalf("P8: the list %q: %v", field, err)
		}
		numbers = append(numbers, number)
	}
	return numbers
}

func same(a, b api.Box) bool {
	ok := a.Name == b.Name && slices.Equal(a.Grant.CPUs, b.Grant.CPUs)
	for kind := range a.Grant.Devices {
		ok = ok && slices.Equal(a.Grant.Devices[kind], b.Grant.Devices[kind])
	}
	return ok
}

func TestAllIsInTheText(t *testing.T) {
	var boxes []api.Box
	for b := range 256 {
		boxes = append(boxes, box("x"+string([]byte{byte(b)})+"y", []int{b % 24}, nil, []int{0, b}))
	}
	for _, name := range []string{
		"a", "a ", " a", "\"", "\\", "\\n", "'", "- -", "1,2", "boxes 0", "a\nb", "\r\n",
		"\xed\xa0\x80", "\xc3", "\xef\xbf\xbd", "é", "\U0001F600", strings.Repeat("\xff", api.MaxName), strings.Repeat("\"", api.MaxName),
	} {
		boxes = append(boxes, box(name, nil, []int{3}), box(name, []int{1, 2}, []int{3}, []int{4, 5}, []int{6}))
	}
	if got := read(t, Text(boxes)); !slices.EqualFunc(got, boxes, same) {
		t.Errorf("P8: out of the text come %v, want %v", got, boxes)
	}
}
