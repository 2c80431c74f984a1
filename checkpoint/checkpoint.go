// Package checkpoint: the file that tells who has what.
//
// Its first line is "boxes", how many they are, and a check sum of all that comes
// behind that line. Then each box has a line, by their names: its CPUs, its
// devices of each kind, its name; between them a space. A list is its numbers
// with commas between, or - if it has none. The name is quoted as in Go, so that
// any bytes of it stay within the line.
package checkpoint

import (
	"strconv"
	"strings"

	"berth/api"
)

// File is the file's name.
const File = "boxes"

const noNumbers = "-"

// Text is the file's bytes for these boxes.
func Text(boxes []api.Box) string {
	var lines strings.Builder
	for _, box := range boxes {
		lines.WriteString(line(box))
	}
	return head(len(boxes), lines.String()) + lines.String()
}

func head(count int, lines string) string {
	return "boxes " + strconv.Itoa(count) + " " + strconv.FormatUint(checkSum(lines), 16) + "\n"
}

// checkSum is FNV-1a: two texts that differ in one byte never have the same.
func checkSum(text string) uint64 {
	const start, factor = 0xcbf29ce484222325, 0x100000001b3
	sum := uint64(start)
	for i := range len(text) {
		sum = (sum ^ uint64(text[i])) * factor
	}
	return sum
}

func line(box api.Box) string {
	fields := []string{list(box.Grant.CPUs)}
	for _, devices := range box.Grant.Devices {
		fields = append(fields, list(devices))
	}
	fields = append(fields, strconv.QuoteToASCII(box.Name))
	return strings.Join(fields, " ") + "\n"
}

func list(numbers []int) string {
	if len(numbers) == 0 {
		return noNumbers
	}
	var words []string
	for _, number := range numbers {
		words = append(words, strconv.Itoa(number))
	}
	return strings.Join(words, ",")
}
