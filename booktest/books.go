package booktest

import (
	"math"
	"slices"
	"strconv"

	"gaffer/api"
)

type amounts = [api.Kinds]int64

// Some is a book of three nodes and six tasks, four of which are on nodes.
func Some() api.Book {
	return api.Book{
		Nodes: []api.Node{
			{Name: "l", Has: amounts{9, 9, 9}},
			{Name: "m", Has: amounts{9, 9, 9}, Labels: Pairs("disk", "x", "zone", "a"), Taints: Pairs("gpu", "")},
			{Name: "n", Has: amounts{5, 0, 3}},
		},
		Tasks: []api.Task{
			{Name: "a", Needs: amounts{3, 0, 1}, Group: "red"},
			{Name: "b", Needs: amounts{1, 1, 1}, Wants: Pairs("zone", "a"), Bears: Pairs("gpu", "", "old", "")},
			{Name: "c", Bears: Pairs("gpu", ""), Group: "blue", Apart: "green"},
			{Name: "d", Needs: amounts{3}, Apart: "red"},
			{Name: "e", Needs: amounts{2, 0, 2}},
			{Name: "f", Needs: amounts{9, 9, 9}, Wants: Pairs("none", "")},
		},
		Binds: []api.Bind{{Task: "a", Node: "n"}, {Task: "b", Node: "m"}, {Task: "c", Node: "m"}, {Task: "e", Node: "n"}},
		Fence: 5,
	}
}

// With is Some with a change.
func With(change func(b *api.Book)) api.Book {
	b := Clone(Some())
	change(&b)
	return b
}

// Orders are one of each kind that is done in Some.
func Orders() []api.Order {
	return []api.Order{
		{Kind: api.OrderNode, Node: SomeNode()},
		{Kind: api.OrderGone, Name: "l"},
		{Kind: api.OrderTask, Task: SomeTask()},
		{Kind: api.OrderDone, Name: "a"},
		{Kind: api.OrderBind, Name: "d", On: "l", Fence: 5},
		{Kind: api.OrderFree, Name: "b"},
		{Kind: api.OrderLook, Name: "c"},
	}
}

// RightBooks are books at all edges.
func RightBooks() map[string]api.Book {
	full := Full()
	exact := api.Book{Nodes: []api.Node{{Name: "n", Has: amounts{64, api.MaxAmount, 0}}}}
	for i := range api.MaxTasks {
		t := api.Task{Name: "t" + strconv.Itoa(100+i), Needs: amounts{2, api.MaxAmount / api.MaxTasks, 0}}
		exact.Tasks = append(exact.Tasks, t)
		exact.Binds = append(exact.Binds, api.Bind{Task: t.Name, Node: "n"})
	}
	return map[string]api.Book{
		"nothing":                {},
		"empty lists":            {Nodes: []api.Node{}, Tasks: []api.Task{}, Binds: []api.Bind{}},
		"a fence alone":          {Fence: math.MaxUint64},
		"some":                   Some(),
		"full":                   full,
		"no binds":               With(func(b *api.Book) { b.Binds = nil }),
		"nodes alone":            With(func(b *api.Book) { b.Binds, b.Tasks = nil, nil }),
		"tasks alone":            With(func(b *api.Book) { b.Binds, b.Nodes = nil, nil }),
		"all is used":            With(func(b *api.Book) { b.Nodes[2].Has = amounts{5, 0, 3} }),
		"to the last":            exact,
		"any fence":              With(func(b *api.Book) { b.Fence = math.MaxUint64 }),
		"apart of its own group": With(func(b *api.Book) { b.Tasks[0].Apart = "red" }),
		"apart, but elsewhere":   With(func(b *api.Book) { b.Tasks[2].Apart = "red" }),
		"apart, but nowhere":     With(func(b *api.Book) { b.Tasks[3].Group, b.Tasks[4].Apart = "grey", "grey" }),
		"no group, none apart":   With(func(b *api.Book) { b.Tasks[0].Group, b.Tasks[4].Group = "", "" }),
		"one group":              With(func(b *api.Book) { b.Tasks[4].Group = "red" }),
		"names by bytes":         {Nodes: []api.Node{{Name: "-"}, {Name: "0"}, {Name: "a"}, {Name: "a-"}, {Name: "a0"}, {Name: "aa"}, {Name: "b"}}},
		"one name, two things":   {Nodes: []api.Node{{Name: "x"}}, Tasks: []api.Task{{Name: "x"}}, Binds: []api.Bind{{Task: "x", Node: "x"}}},
	}
}

// wrongTogether are books of which each node, task and bind may be right by itself.
func wrongTogether() map[string]api.Book {
	full := Full()
	return map[string]api.Book{
		"too many nodes":      {Nodes: append(slices.Clone(full.Nodes), api.Node{Name: "z"})},
		"too many tasks":      {Tasks: append(slices.Clone(full.Tasks), api.Task{Name: "z"})},
		"nodes fall":          {Nodes: []api.Node{{Name: "b"}, {Name: "a"}}},
		"the last nodes fall": {Nodes: []api.Node{{Name: "a"}, {Name: "c"}, {Name: "b"}}},
		"nodes fall by bytes": {Nodes: []api.Node{{Name: "a"}, {Name: "9"}}},
		"a node twice":        {Nodes: []api.Node{{Name: "a"}, {Name: "a", Has: amounts{1}}}},
		"tasks fall":          {Tasks: []api.Task{{Name: "b"}, {Name: "a"}}},
		"the last tasks fall": {Tasks: []api.Task{{Name: "a"}, {Name: "c"}, {Name: "b"}}},
		"a task twice":        {Tasks: []api.Task{{Name: "a"}, {Name: "a", Rank: 1}}},
		"binds fall":          With(func(b *api.Book) { b.Binds[0], b.Binds[1] = b.Binds[1], b.Binds[0] }),
		"the last binds fall": With(func(b *api.Book) { b.Binds[2], b.Binds[3] = b.Binds[3], b.Binds[2] }),
		"a bind twice":        With(func(b *api.Book) { b.Binds = slices.Insert(b.Binds, 1, b.Binds[1]) }),
		"on two nodes": With(func(b *api.Book) {
			b.Binds = slices.Insert(b.Binds, 2, api.Bind{Task: "c", Node: "l"})
			b.Tasks[2].Bears = nil
			b.Binds[3].Node = "l"
		}),
		"on two nodes, falling": With(func(b *api.Book) { b.Binds = append(b.Binds, api.Bind{Task: "c", Node: "l"}) }),
		"a want":                With(func(b *api.Book) { b.Tasks[0].Wants = Pairs("zone", "a") }),
		"a want of the last":    With(func(b *api.Book) { b.Tasks[4].Wants = Pairs("zone", "a") }),
		"a taint":               With(func(b *api.Book) { b.Tasks[1].Bears = Pairs("old", "") }),
		"a taint more":          With(func(b *api.Book) { b.Nodes[2].Taints = Pairs("old", "") }),
		"one's apart":           With(func(b *api.Book) { b.Tasks[4].Apart = "red" }),
		"the other's apart":     With(func(b *api.Book) { b.Tasks[0].Apart, b.Tasks[4].Group = "grey", "grey" }),
		"both apart":            With(func(b *api.Book) { b.Tasks[1].Group, b.Tasks[1].Apart = "green", "blue" }),
		"of one group, apart":   With(func(b *api.Book) { b.Tasks[0].Apart, b.Tasks[4].Group = "red", "red" }),
		"many binds of nothing": {Binds: slices.Repeat([]api.Bind{{}}, 1<<16)},
	}
}

// WrongBooks are books with a fault each.
func WrongBooks() map[string]api.Book {
	list := wrongTogether()
	for kind := range api.Kinds {
		list["no room, kind "+strconv.Itoa(kind)] = With(func(b *api.Book) {
			b.Tasks[4].Needs[kind]++
			b.Nodes[2].Has[kind] = b.Tasks[0].Needs[kind] + b.Tasks[4].Needs[kind] - 1
		})
		list["too much for it alone, kind "+strconv.Itoa(kind)] = With(func(b *api.Book) { b.Tasks[1].Needs[kind] = 10 })
	}
	for _, name := range []string{"", "0", "aa", "A", "l", "z"} {
		on := api.Bind{Task: name, Node: "l"}
		list["a bind of no task "+name] = With(func(b *api.Book) {
			b.Binds = append(b.Binds, on)
			Sort(*b)
		})
	}
	for _, name := range []string{"", "0", "lm", "N", "a", "z"} {
		list["a bind of no node "+name] = With(func(b *api.Book) { b.Binds[0].Node = name })
		list["the last bind of no node "+name] = With(func(b *api.Book) { b.Binds[3].Node = name })
	}
	for i, w := range WrongNodes() {
		list["a node that is not right "+strconv.Itoa(i)] = api.Book{Nodes: []api.Node{w.Node}}
		list["the last node is not right "+strconv.Itoa(i)] = api.Book{Nodes: []api.Node{{Name: "-"}, w.Node}}
	}
	for i, w := range WrongTasks() {
		list["a task that is not right "+strconv.Itoa(i)] = api.Book{Tasks: []api.Task{w.Task}}
		list["the last task is not right "+strconv.Itoa(i)] = api.Book{Tasks: []api.Task{{Name: "-"}, w.Task}}
	}
	return list
}
