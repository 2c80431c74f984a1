// Package machine: what a machine is, and which of its CPUs are given out.
package machine

import (
	"slices"

	"berth/api"
)

// Valid tells whether m is a machine.
func Valid(m api.Machine) bool {
	return validCPUs(m.CPUs) &&
		validReserved(m.Reserved, len(m.CPUs)) &&
		m.Policy >= api.None && m.Policy <= api.Single
}

func validCPUs(cpus []api.CPU) bool {
	if len(cpus) < 1 || len(cpus) > api.MaxCPUs {
		return false
	}
	for i, cpu := range cpus {
		if !validPlace(cpu) || !agreesWithAll(cpu, cpus[:i]) {
			return false
		}
	}
	return true
}

func validPlace(cpu api.CPU) bool {
	return below(cpu.Socket, api.MaxSockets) && IsNode(cpu.Node) && below(cpu.Core, api.MaxCPUs)
}

func agreesWithAll(cpu api.CPU, others []api.CPU) bool {
	for _, other := range others {
		if !agree(cpu, other) {
			return false
		}
	}
	return true
}

// agree holds two CPUs against the nesting: a core lies in one node, a node in
// one socket.
func agree(a, b api.CPU) bool {
	if a.Core == b.Core && a.Node != b.Node {
		return false
	}
	return a.Node != b.Node || a.Socket == b.Socket
}

func validReserved(reserved []int, cpus int) bool {
	last := -1
	for _, number := range reserved {
		if number <= last || number >= cpus {
			return false
		}
		last = number
	}
	return true
}

// IsNode tells whether a node may have this number. It need not have CPUs: a
// device may lie in a node that has none.
func IsNode(number int) bool {
	return below(number, api.MaxNodes)
}

func below(number, limit int) bool {
	return number >= 0 && number < limit
}

// Copy gives the same machine with lists of its own.
func Copy(m api.Machine) api.Machine {
	m.CPUs = slices.Clone(m.CPUs)
	m.Reserved = slices.Clone(m.Reserved)
	return m
}

// Unreserved lists the CPUs that may be given to boxes, by rising numbers.
func Unreserved(m api.Machine) []int {
	var numbers []int
	for number := range m.CPUs {
		if !slices.Contains(m.Reserved, number) {
			numbers = append(numbers, number)
		}
	}
	return numbers
}
