package booktest

import (
	"slices"
	"strconv"

	"gaffer/api"
	"gaffer/rig"
)

// Drawn is a right book that the seed draws, of few amounts, ranks, pairs and groups: some tasks are on nodes, some wait, and of these some can be nowhere.
func Drawn(seed uint64) api.Book {
	draw := drawer(seed)
	b := api.Book{Fence: uint64(draw(4))}
	for i := range draw(api.MaxNodes + 1) {
		n := api.Node{Name: "n" + strconv.Itoa(i), Has: drawnAmounts(draw, 20), Labels: drawnPairs(draw), Taints: drawnPairs(draw)}
		b.Nodes = append(b.Nodes, n)
	}
	for i := range draw(api.MaxTasks + 1) {
		t := api.Task{Name: "t" + strconv.Itoa(i), Needs: drawnAmounts(draw, 8), Wants: drawnPairs(draw), Bears: drawnPairs(draw), Rank: draw(5) - 2}
		t.Group, t.Apart = drawnGroup(draw), drawnGroup(draw)
		b.Tasks = append(b.Tasks, t)
	}
	Sort(b)
	for _, t := range b.Tasks {
		if len(b.Nodes) == 0 || draw(2) == 0 {
			continue
		}
		if n := b.Nodes[draw(len(b.Nodes))]; Fits(b, t, n) {
			b.Binds = append(b.Binds, api.Bind{Task: t.Name, Node: n.Name})
		}
	}
	return b
}

// Fits tells whether t, which waits in b, can be on n, one of its nodes, as the chapters' words have it.
func Fits(b api.Book, t api.Task, n api.Node) bool {
	used := t.Needs
	for _, other := range On(b, n.Name) {
		if !rig.Bear(t, other) {
			return false
		}
		for kind, amount := range other.Needs {
			used[kind] += amount
		}
	}
	for kind, amount := range used {
		if amount > n.Has[kind] {
			return false
		}
	}
	return rig.Suits(t, n)
}

// On are the tasks that are on a node; On of no name those that wait. They rise by Name.
func On(b api.Book, node string) []api.Task {
	on := func(t api.Task) string {
		i := slices.IndexFunc(b.Binds, func(on api.Bind) bool { return on.Task == t.Name })
		if i < 0 {
			return ""
		}
		return b.Binds[i].Node
	}
	return slices.DeleteFunc(slices.Clone(b.Tasks), func(t api.Task) bool { return on(t) != node })
}

// drawer draws numbers below the one that is asked: the same ones of the same seed.
func drawer(seed uint64) func(below int) int {
	return func(below int) int {
		seed += 0x9e3779b97f4a7c15
		n := seed
		n = (n ^ n>>30) * 0xbf58476d1ce4e5b9
		n = (n ^ n>>27) * 0x94d049bb133111eb
		return int((n ^ n>>31) >> 33 % uint64(below))
	}
}

func drawnAmounts(draw func(below int) int, below int) amounts {
	return amounts{int64(draw(below)), int64(draw(below)), int64(draw(below))}
}

// drawnPairs are mostly none.
func drawnPairs(draw func(below int) int) []api.Pair {
	switch draw(6) {
	case 0:
		return Pairs("zone", "a")
	case 1:
		return Pairs("disk", "x", "zone", "a")
	}
	return nil
}

// drawnGroup is mostly none.
func drawnGroup(draw func(below int) int) string {
	switch draw(6) {
	case 0:
		return "red"
	case 1:
		return "blue"
	}
	return ""
}
