package checkpoint

import (
	"strconv"
	"strings"

	"berth/api"
)

// The fields of a box's line.
const (
	cpusField = iota
	firstKindField
	nameField  = firstKindField + api.MaxKinds
	fieldCount = nameField + 1
)

// Read gives the boxes that the text is of, in its order, and tells whether it is
// one that Text gives. They need not be boxes that a machine may have.
func Read(text string) ([]api.Box, bool) {
	_, lines, _ := strings.Cut(text, "\n")
	var boxes []api.Box
	for line := range strings.Lines(lines) {
		box, ok := readLine(line)
		if !ok {
			return nil, false
		}
		boxes = append(boxes, box)
	}
	// This looks at the first line too, and refuses what is spelt as Text never
	// spells it, such as 07 or a line without an end.
	if Text(boxes) != text {
		return nil, false
	}
	return boxes, true
}

func readLine(line string) (api.Box, bool) {
	fields := strings.SplitN(strings.TrimSuffix(line, "\n"), " ", fieldCount)
	if len(fields) < fieldCount {
		return api.Box{}, false
	}
	name, err := strconv.Unquote(fields[nameField])
	if err != nil {
		return api.Box{}, false
	}
	cpus, ok := readList(fields[cpusField])
	// Unquote may give a piece of the text, which is not to be kept with the name.
	box := api.Box{Name: strings.Clone(name), Grant: api.Grant{CPUs: cpus}}
	for kind := range box.Grant.Devices {
		devices, good := readList(fields[firstKindField+kind])
		box.Grant.Devices[kind] = devices
		ok = ok && good
	}
	return box, ok
}

func readList(field string) ([]int, bool) {
	if field == noNumbers {
		return nil, true
	}
	var numbers []int
	for word := range strings.SplitSeq(field, ",") {
		number, err := strconv.Atoi(word)
		if err != nil {
			return nil, false
		}
		numbers = append(numbers, number)
	}
	return numbers, true
}
