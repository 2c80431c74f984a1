package berth

import (
	"slices"

	"berth/api"
	"berth/checkpoint"
	"berth/machine"
)

// recall finds out of the files which boxes there were, and tells whether the
// files can be believed. No file says that there were none.
func (b *Berth) recall(files []api.File) ([]api.Box, bool) {
	texts := textsOf(files)
	if len(texts) == 0 {
		return nil, true
	}
	// A disk has no two files of one name, so nobody knows which of them holds.
	if len(texts) > 1 {
		return nil, false
	}
	boxes, ok := checkpoint.Read(texts[0])
	return boxes, ok && b.mayHave(boxes)
}

// textsOf lists the bytes of all files that are called as the checkpoint is.
func textsOf(files []api.File) []string {
	var texts []string
	for _, file := range files {
		if file.Name == checkpoint.File {
			texts = append(texts, file.Bytes)
		}
	}
	return texts
}

// mayHave tells whether the machine may have just these boxes, in this order.
func (b *Berth) mayHave(boxes []api.Box) bool {
	if len(boxes) > api.MaxBoxes {
		return false
	}
	for i, box := range boxes {
		ordered := i == 0 || boxes[i-1].Name < box.Name
		if !isName(box.Name) || !ordered || !ownsAny(box.Grant) {
			return false
		}
	}
	for resource := range resources {
		if !ownedOnce(boxes, resource, b.ownable(resource)) {
			return false
		}
	}
	return true
}

func ownsAny(grant api.Grant) bool {
	for resource := range resources {
		if len(owned(grant, resource)) > 0 {
			return true
		}
	}
	return false
}

// ownable lists what of a resource a box may own, by rising numbers. Devices need
// not stand in a list: a box goes on to own what does not any more.
func (b *Berth) ownable(resource int) []int {
	if resource == cpus {
		return machine.Unreserved(b.machine)
	}
	var numbers []int
	for number := range mostOf(resource) {
		numbers = append(numbers, number)
	}
	return numbers
}

// ownedOnce tells whether each box owns of a resource only what is ownable, by
// rising numbers, and nothing that another owns. What is found to be owned is
// taken out of ownable.
func ownedOnce(boxes []api.Box, resource int, ownable []int) bool {
	for _, box := range boxes {
		numbers := owned(box.Grant, resource)
		if !slices.IsSorted(numbers) {
			return false
		}
		for _, number := range numbers {
			place, found := slices.BinarySearch(ownable, number)
			if !found {
				return false
			}
			ownable = slices.Delete(ownable, place, place+1)
		}
	}
	return true
}

// runningOf lists those of the boxes that run, in a new list.
func runningOf(boxes []api.Box, running []string) []api.Box {
	return slices.DeleteFunc(slices.Clone(boxes), func(box api.Box) bool {
		return !slices.Contains(running, box.Name)
	})
}
