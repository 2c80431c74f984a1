package machine

import (
	"math"
	"slices"
	"testing"

	"berth/api"
)

func cpu(socket, node, core int) api.CPU {
	return api.CPU{Socket: socket, Node: node, Core: core}
}

// alike gives so many CPUs of socket, node and core 0.
func alike(number int) []api.CPU {
	return make([]api.CPU, number)
}

func of(cpus ...api.CPU) api.Machine {
	return api.Machine{CPUs: cpus}
}

func with(number int, reserved ...int) api.Machine {
	return api.Machine{CPUs: alike(number), Reserved: reserved}
}

func ruled(policy int) api.Machine {
	return api.Machine{CPUs: alike(1), Policy: policy}
}

func TestValid(t *testing.T) {
	for what, m := range map[string]api.Machine{
		"one CPU":                        with(1),
		"the most CPUs":                  with(api.MaxCPUs),
		"the last socket, node and core": of(cpu(api.MaxSockets-1, api.MaxNodes-1, api.MaxCPUs-1)),
		"two nodes of one socket":        of(cpu(2, 0, 0), cpu(2, 1, 1)),
		"a node of cores that fall":      of(cpu(0, 0, 9), cpu(0, 0, 3), cpu(0, 0, 9)),
		"nodes that take turns":          of(cpu(0, 0, 0), cpu(1, 1, 1), cpu(0, 0, 0), cpu(1, 1, 1)),
		"the first reserved":             with(8, 0),
		"the last reserved":              with(8, 7),
		"all reserved":                   with(3, 0, 1, 2),
		"an empty list of reserved":      {CPUs: alike(2), Reserved: []int{}},
		"policy None":                    ruled(api.None),
		"policy BestEffort":              ruled(api.BestEffort),
		"policy Restricted":              ruled(api.Restricted),
		"policy Single":                  ruled(api.Single),
	} {
		if !Valid(m) {
			t.Errorf("P3: %s: no machine, want one: %v", what, m)
		}
	}
}

func TestNotValid(t *testing.T) {
	for what, m := range map[string]api.Machine{
		"nothing":                       {},
		"an empty list of CPUs":         of(alike(0)...),
		"one CPU too many":              with(api.MaxCPUs + 1),
		"very many CPUs":                with(1 << 16),
		"socket above":                  of(cpu(api.MaxSockets, 0, 0)),
		"socket below":                  of(cpu(-1, 0, 0)),
		"node above":                    of(cpu(0, api.MaxNodes, 0)),
		"node below":                    of(cpu(0, -1, 0)),
		"core above":                    of(cpu(0, 0, api.MaxCPUs)),
		"core below":                    of(cpu(0, 0, -1)),
		"the least and greatest of int": of(cpu(math.MinInt, math.MaxInt, math.MinInt)),
		"the last CPU is none":          of(cpu(0, 0, 0), cpu(0, 0, 1), cpu(0, 4, 2)),
		"a core in two nodes":           of(cpu(0, 0, 5), cpu(0, 1, 5)),
		"a core in two nodes, far off":  of(cpu(0, 0, 5), cpu(0, 0, 6), cpu(0, 2, 7), cpu(0, 2, 5)),
		"a core in two sockets":         of(cpu(0, 0, 5), cpu(1, 1, 5)),
		"a node in two sockets":         of(cpu(0, 3, 1), cpu(1, 3, 2)),
		"a node in two, far off":        of(cpu(0, 3, 1), cpu(0, 2, 2), cpu(1, 1, 3), cpu(1, 3, 4)),
		"reserved above":                with(8, 8),
		"reserved far above":            with(8, math.MaxInt),
		"reserved below":                with(8, -1),
		"reserved far below":            with(8, math.MinInt),
		"reserved twice":                with(8, 2, 2),
		"reserved falling":              with(8, 1, 4, 3),
		"more reserved than CPUs":       with(2, 0, 1, 2),
		"policy above":                  ruled(api.Single + 1),
		"policy below":                  ruled(api.None - 1),
		"policy far below":              ruled(math.MinInt),
	} {
		if Valid(m) {
			t.Errorf("P3: %s: a machine, want none: %v", what, m)
		}
	}
}

func TestIsNode(t *testing.T) {
	for number, want := range map[int]bool{
		math.MinInt: false, -1: false, 0: true, api.MaxNodes - 1: true, api.MaxNodes: false, math.MaxInt: false,
	} {
		if IsNode(number) != want {
			t.Errorf("P4: node %d: %v, want %v", number, !want, want)
		}
	}
}

func TestCopySharesNothing(t *testing.T) {
	m := api.Machine{CPUs: []api.CPU{cpu(1, 2, 3), cpu(1, 2, 4)}, Reserved: []int{1}, Policy: api.Single}
	c := Copy(m)
	if !slices.Equal(c.CPUs, m.CPUs) || !slices.Equal(c.Reserved, m.Reserved) || c.Policy != m.Policy {
		t.Fatalf("the copy of %v is %v", m, c)
	}
	m.CPUs[0], m.Reserved[0] = cpu(0, 0, 0), 0
	if c.CPUs[0] != cpu(1, 2, 3) || c.Reserved[0] != 1 {
		t.Errorf("P2: the copy changed with what it was made of: %v", c)
	}
}

func TestUnreserved(t *testing.T) {
	for _, c := range []struct {
		m    api.Machine
		want []int
	}{
		{with(3), []int{0, 1, 2}},
		{with(5, 0, 4), []int{1, 2, 3}},
		{with(5, 2), []int{0, 1, 3, 4}},
		{with(2, 0, 1), nil},
	} {
		if got := Unreserved(c.m); !slices.Equal(got, c.want) {
			t.Errorf("P7: of %v not reserved: %v, want %v", c.m, got, c.want)
		}
	}
}
