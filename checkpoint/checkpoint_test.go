package checkpoint

import (
	"slices"
	"strings"
	"testing"

	"berth/api"
)

func box(name string, cpus []int, devices ...[]int) api.Box {
	b := api.Box{Name: name, Grant: api.Grant{CPUs: cpus}}
	copy(b.Grant.Devices[:], devices)
	return b
}

func TestText(t *testing.T) {
	for _, c := range []struct {
		boxes []api.Box
		want  string
	}{
		{nil, "boxes 0 cbf29ce484222325\n"},
		{[]api.Box{box("a", []int{0, 23}, []int{1}, nil, []int{2, 3, 15})}, "boxes 1 1c0240a6c5fed9e6\n0,23 1 - 2,3,15 \"a\"\n"},
		{[]api.Box{box("", nil, []int{}), box("\n \"\xff", []int{5})}, "boxes 2 3c078b5a044566bf\n- - - - \"\"\n5 - - - \"\\n \\\"\\xff\"\n"},
	} {
		if got := Text(c.boxes); got != c.want {
			t.Errorf("P8: the text of %v is %q, want %q", c.boxes, got, c.want)
		}
	}
}

func same(a, b api.Box) bool {
	ok := a.Name == b.Name && slices.Equal(a.Grant.CPUs, b.Grant.CPUs)
	for kind := range a.Grant.Devices {
		ok = ok && slices.Equal(a.Grant.Devices[kind], b.Grant.Devices[kind])
	}
	return ok
}

func wantRead(t *testing.T, text string, want []api.Box) {
	t.Helper()
	if got, ok := Read(text); !ok || !slices.EqualFunc(got, want, same) {
		t.Errorf("P9: out of %q come %v, %v, want %v", text, got, ok, want)
	}
}

func TestCheckSum(t *testing.T) {
	for text, want := range map[string]uint64{
		"": 0xcbf29ce484222325, "a": 0xaf63dc4c8601ec8c, "foobar": 0x85944171f73967e8,
	} {
		if got := checkSum(text); got != want {
			t.Errorf("the check sum of %q is %x, want %x", text, got, want)
		}
	}
}

func TestAllIsInTheText(t *testing.T) {
	var boxes []api.Box
	for b := range 256 {
		boxes = append(boxes, box("x"+string([]byte{byte(b)})+"y", []int{b % 24}, nil, []int{0, b}))
	}
	for _, name := range []string{
		"a", "a ", " a", "\"", "\\", "\\n", "'", "- -", "1,2", "boxes 0", "a\nb", "\r\n",
		"\xed\xa0\x80", "\xc3", "\xef\xbf\xbd", "é", "\U0001F600", strings.Repeat("\xff", api.MaxName), strings.Repeat("\"", api.MaxName),
	} {
		boxes = append(boxes, box(name, nil, []int{3}), box(name, []int{1, 2}, []int{3}, []int{4, 5}, []int{6}))
	}
	wantRead(t, Text(boxes), boxes)
}
