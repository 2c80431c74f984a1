package checkpoint

import (
	"math"
	"slices"
	"strings"
	"testing"
	"unsafe"

	"berth/api"
)

func TestReadGivesWhatWasWritten(t *testing.T) {
	for _, boxes := range [][]api.Box{
		nil,
		{box("a", []int{0})},
		{box("a", []int{0, 23}, []int{1}, nil, []int{2, 3, 15}), box("b", nil, nil, []int{7})},
		{box("", nil)},
		{box("b", []int{3, 3, -1}), box("a", []int{math.MaxInt, math.MinInt}), box("a", []int{5}, []int{99})},
		slices.Repeat([]api.Box{box("many", []int{1})}, 99),
	} {
		wantRead(t, Text(boxes), boxes)
	}
}

func refuseToRead(t *testing.T, text string) {
	t.Helper()
	if boxes, ok := Read(text); ok || boxes != nil {
		t.Errorf("P10: out of %q come %v, %v, want nothing", text, boxes, ok)
	}
}

// sealed puts the right first line ahead of the lines of so many boxes.
func sealed(count int, lines string) string {
	return head(count, lines) + lines
}

func TestReadRefusesWhatIsNoText(t *testing.T) {
	for _, text := range []string{
		"", "\n", "\n\n", "boxes", "boxes 0", "boxes 0\n", "boxes 0 0\n", "boxes 0 cbf29ce484222325",
		"boxes 0 cbf29ce484222325\r\n", "boxes 00 cbf29ce484222325\n", "boxes 0 CBF29CE484222325\n",
		"boxes 0 cbf29ce484222325\n\n", " boxes 0 cbf29ce484222325\n", "boxes 1 cbf29ce484222325\n",
		"\x00", strings.Repeat("9", 100000), strings.Repeat("\n", 100000), strings.Repeat("boxes ", 100000),
	} {
		refuseToRead(t, text)
	}
}

// The first line is right, but the others are none that Text writes.
func TestReadRefusesOtherSpellings(t *testing.T) {
	wantRead(t, sealed(1, "0,7 - - - \"a\"\n"), []api.Box{box("a", []int{0, 7})})
	for _, lines := range []string{
		"\n", "0,7 - - - \"a\"", "0,7 - - - \"a\"\n\n", "\n0,7 - - - \"a\"\n", "0,7 - - - \"a\"\r\n",
		"0,7 - - - \"a\" \n", " 0,7 - - - \"a\"\n", "0,7 - -  - \"a\"\n", "0,7 - - \"a\"\n", "0,7 - - - - \"a\"\n",
		"00,7 - - - \"a\"\n", "0,07 - - - \"a\"\n", "+0,7 - - - \"a\"\n", "-0,7 - - - \"a\"\n", "0x0,7 - - - \"a\"\n",
		"0,,7 - - - \"a\"\n", ",0,7 - - - \"a\"\n", "0,7, - - - \"a\"\n", "0,7,- - - - \"a\"\n", "0;7 - - - \"a\"\n",
		"0,7  - - \"a\"\n", "0,7 -- - - \"a\"\n", "0,7 - - x \"a\"\n",
		"0,9223372036854775808 - - - \"a\"\n", "0,-9223372036854775809 - - - \"a\"\n",
		"0,7 - - - a\n", "0,7 - - - 'a'\n", "0,7 - - - `a`\n", "0,7 - - - \"a\n", "0,7 - - - a\"\n",
		"0,7 - - - \"\\x61\"\n", "0,7 - - - \"\\141\"\n", "0,7 - - - \"\xff\"\n", "0,7 - - - \"é\"\n", "0,7 - - - \"a\"\"\n",
		"0,7 - - - \n", "0,7\n", "\"a\"\n", "- - - -\n",
	} {
		for count := range 3 {
			refuseToRead(t, sealed(count, lines))
		}
	}
	refuseToRead(t, sealed(2, "0,7 - - - \"a\"\n"))
	refuseToRead(t, sealed(1, ""))
	refuseToRead(t, sealed(-1, ""))
}

// Whatever befalls one byte of the text, it is told.
func TestReadRefusesOneWrongByte(t *testing.T) {
	text := Text([]api.Box{box("a", []int{0, 1, 11}, []int{0}, nil, []int{2}), box("a\xff ", nil, nil, []int{1, 2})})
	for i := range len(text) {
		refuseToRead(t, text[:i])
		refuseToRead(t, text[i+1:])
		refuseToRead(t, text[:i]+text[i+1:])
		for b := range 256 {
			other := string([]byte{byte(b)})
			if other != text[i:i+1] {
				refuseToRead(t, text[:i]+other+text[i+1:])
			}
			refuseToRead(t, text[:i]+other+text[i:])
			refuseToRead(t, text+other)
		}
	}
}

// P2: nothing handed in is kept, so no name is a piece of the text.
func TestReadKeepsNothingOfTheText(t *testing.T) {
	text := Text([]api.Box{box("aa", []int{0}), box("b\n", []int{1})})
	boxes, _ := Read(text)
	first := uintptr(unsafe.Pointer(unsafe.StringData(text)))
	for _, box := range boxes {
		at := uintptr(unsafe.Pointer(unsafe.StringData(box.Name)))
		if at >= first && at < first+uintptr(len(text)) {
			t.Errorf("P2: the name %q is a piece of the text", box.Name)
		}
	}
}
