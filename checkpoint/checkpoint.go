// Package checkpoint: the file that tells who has what.
//
// Its first line is "boxes" and how many they are. Then each box has a line, by
// their names: its CPUs, its devices of each kind, its name; between them a
// space. A list is its numbers with commas between, or - if it has none. The
// name is quoted as in Go, so that any bytes of it stay within the line.
package checkpoint

import (
	"strconv"
	"strings"

	"berth/api"
)

// File is the file's name.
const File = "boxes"

const noNumbers = "-"

// Text is the file's bytes for these boxes.
func Text(boxes []api.Box) string {
	var text strings.Builder
	text.WriteString("boxes " + strconv.Itoa(len(boxes)) + "\n")
	for _, box := range boxes {
		text.WriteString(line(box))
	}
	return text.String()
}

func line(box api.Box) string {
	fields := []string{list(box.Grant.CPUs)}
	for _, devices := range box.Grant.Devices {
		fields = append(fields, list(devices))
	}
	fields = append(fields, strconv.QuoteToASCII(box.Name))
	return strings.Join(fields, " ") + "\n"
}

func list(numbers []int) string {
	if len(numbers) == 0 {
		return noNumbers
	}
	var words []string
	for _, number := range numbers {
		words = append(words, strconv.Itoa(number))
	}
	return strings.Join(words, ",")
}
