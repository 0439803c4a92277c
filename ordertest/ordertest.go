// Package ordertest is for tests alone: commands, and things told, to ask a layer with, right ones and wrong ones, and their bytes as the chapters say them.
package ordertest

import (
	"math"
	"slices"
	"strings"

	"gaffer/api"
	"gaffer/booktest"
)

const longest = "zzzzzzzzzzzzzzzzzzzzzzzzzzzzzzzz" // MaxName bytes

// Named is an order of those kinds that have a Name; of a bind there is all that it has.
func Named(kind api.OrderKind, name string) api.Order {
	o := api.Order{Kind: kind, Name: name}
	if kind == api.OrderBind {
		o.On, o.Fence = "n-1", 5
	}
	return o
}

// NamedKinds are those that have a Name.
func NamedKinds() []api.OrderKind {
	return []api.OrderKind{api.OrderGone, api.OrderDone, api.OrderBind, api.OrderFree, api.OrderLook}
}

// Widest are a node and a task that need as many bytes as may be.
func Widest() (api.Node, api.Task) {
	var l []api.Pair
	for i := range api.MaxPairs {
		l = append(l, api.Pair{Key: longest, Value: longest[i:]})
	}
	slices.Reverse(l) // rising
	most := [api.Kinds]int64{api.MaxAmount, api.MaxAmount, api.MaxAmount}
	n := api.Node{Name: longest, Has: most, Labels: l, Taints: slices.Clone(l)}
	t := api.Task{Name: longest, Needs: most, Wants: slices.Clone(l), Bears: slices.Clone(l), Group: longest, Apart: longest, Rank: 1000}
	return n, t
}

// Orders are right ones, of each kind, at all edges.
func Orders() []api.Order {
	n, t := Widest()
	list := []api.Order{
		{Kind: api.OrderNode, Node: booktest.SomeNode()},
		{Kind: api.OrderNode, Node: api.Node{Name: "n"}},
		{Kind: api.OrderNode, Node: n},
		{Kind: api.OrderNode, Node: api.Node{Name: "n", Labels: booktest.Pairs("a", "")}},
		{Kind: api.OrderNode, Node: api.Node{Name: "n", Taints: booktest.Pairs("a", "")}},
		{Kind: api.OrderTask, Task: booktest.SomeTask()},
		{Kind: api.OrderTask, Task: api.Task{Name: "t"}},
		{Kind: api.OrderTask, Task: t},
		{Kind: api.OrderTask, Task: api.Task{Name: "t", Wants: booktest.Pairs("a", "")}},
		{Kind: api.OrderTask, Task: api.Task{Name: "t", Bears: booktest.Pairs("a", "")}},
		{Kind: api.OrderTask, Task: api.Task{Name: "t", Group: "g"}},
		{Kind: api.OrderTask, Task: api.Task{Name: "t", Apart: "g"}},
		{Kind: api.OrderBind, Name: "t", On: longest},
		{Kind: api.OrderBind, Name: "a", On: "b"},
		{Kind: api.OrderBind, Name: "b", On: "a"},
	}
	for kind := range api.Kinds {
		for _, amount := range []int64{1, 255, 256, api.MaxAmount} {
			var some [api.Kinds]int64
			some[kind] = amount
			list = append(list, api.Order{Kind: api.OrderNode, Node: api.Node{Name: "n", Has: some}}, api.Order{Kind: api.OrderTask, Task: api.Task{Name: "t", Needs: some}})
		}
	}
	for _, rank := range []int{-1000, -999, -745, -744, -1, 0, 1, 999, 1000} {
		list = append(list, api.Order{Kind: api.OrderTask, Task: api.Task{Name: "t", Rank: rank}})
	}
	for _, n := range numbers() {
		list = append(list, api.Order{Kind: api.OrderBind, Name: "t", On: "n", Fence: n})
	}
	for _, kind := range NamedKinds() {
		for _, name := range []string{"a", "0", "-", "a-9", longest[1:], longest} {
			list = append(list, Named(kind, name))
		}
	}
	return list
}

// Commands are right ones: the orders, each of another client, and of nobody.
func Commands() []api.Command {
	var list []api.Command
	many := numbers()
	for i, o := range Orders() {
		client := many[1:][i%(len(many)-1)]
		list = append(list, api.Command{Client: client, Seq: many[i*5%len(many)], Order: o}, api.Command{Order: o})
	}
	for _, n := range many {
		list = append(list, api.Command{Client: 1, Seq: n, Order: Named(api.OrderLook, "a")})
		if n > 0 {
			list = append(list, api.Command{Client: n, Order: Named(api.OrderLook, "a")})
		}
	}
	return list
}

// WrongCommands are those with a fault in what their kind has, or of no kind: so their bytes have it, too.
func WrongCommands() []api.Command {
	var list []api.Command
	add := func(o api.Order) {
		list = append(list, api.Command{Client: 2, Seq: 3, Order: o}, api.Command{Order: o})
	}
	for _, w := range booktest.WrongNodes() {
		add(api.Order{Kind: api.OrderNode, Node: w.Node})
	}
	for _, w := range booktest.WrongTasks() {
		add(api.Order{Kind: api.OrderTask, Task: w.Task})
	}
	for _, rank := range []int{math.MinInt, -1002, 1002, 1256, math.MaxInt} {
		add(api.Order{Kind: api.OrderTask, Task: api.Task{Name: "t", Rank: rank}})
	}
	for _, name := range []string{"", "A", "a b", "a\x00", "\xff", "é", longest + "z", strings.Repeat("a", api.MaxData)} {
		for _, kind := range NamedKinds() {
			add(Named(kind, name))
		}
		add(api.Order{Kind: api.OrderBind, Name: "t", On: name, Fence: 5})
	}
	for _, kind := range []api.OrderKind{api.OrderNone, api.OrderCount, api.OrderCount + 1, 128, 254, 255} {
		add(Named(kind, "a"))
	}
	for _, o := range Orders() {
		for _, n := range numbers()[1:] {
			list = append(list, api.Command{Seq: n, Order: o})
		}
	}
	return list
}

// Overfull are commands of which all is right, but that there is something that their kind has not: in their bytes that is not to be seen.
func Overfull() []api.Command {
	var list []api.Command
	for _, o := range Orders() {
		for _, more := range extras() {
			with := o
			if more(&with); !sameOrder(with, o) {
				list = append(list, api.Command{Client: 2, Seq: 3, Order: with}, api.Command{Order: with})
			}
		}
	}
	return list
}

// extras give an order something, if its kind has it not.
func extras() []func(o *api.Order) {
	var list []func(o *api.Order)
	add := func(change func(o *api.Order), unless ...api.OrderKind) {
		list = append(list, func(o *api.Order) {
			if !slices.Contains(unless, o.Kind) {
				change(o)
			}
		})
	}
	add(func(o *api.Order) { o.Node = booktest.SomeNode() }, api.OrderNode)
	add(func(o *api.Order) { o.Node.Has[2] = 1 }, api.OrderNode)
	add(func(o *api.Order) { o.Node.Taints = booktest.Pairs("a", "") }, api.OrderNode)
	add(func(o *api.Order) { o.Task = booktest.SomeTask() }, api.OrderTask)
	add(func(o *api.Order) { o.Task.Rank = -1000 }, api.OrderTask)
	add(func(o *api.Order) { o.Task.Wants = booktest.Pairs("a", "") }, api.OrderTask)
	add(func(o *api.Order) { o.Name = "a" }, NamedKinds()...)
	add(func(o *api.Order) { o.On = "n" }, api.OrderBind)
	add(func(o *api.Order) { o.Fence = 1 }, api.OrderBind)
	return list
}

// Tolds are right ones, at all edges.
func Tolds() []api.Told {
	list := []api.Told{}
	for _, why := range []api.Errno{0, 1, api.ErrGap, 127, 128, 254, 255} {
		for _, text := range []string{"", "n", "N", "\x00", "\xff\xfe", longest[1:], longest, strings.Repeat("\xff", api.MaxName)} {
			list = append(list, api.Told{Why: why, Text: text})
		}
	}
	return list
}

func WrongTolds() []api.Told {
	var list []api.Told
	for _, why := range []api.Errno{math.MinInt, -256, -255, -1, 256, 257, 511, 512, 65536, 1 << 31, math.MaxInt} {
		list = append(list, api.Told{Why: why}, api.Told{Why: why, Text: "n"})
	}
	for _, text := range []string{longest + "z", strings.Repeat("\x00", api.MaxName+1), strings.Repeat("n", 256), strings.Repeat("n", api.MaxData), strings.Repeat("n", api.MaxData+1)} {
		list = append(list, api.Told{Text: text}, api.Told{Why: 255, Text: text})
	}
	return list
}

// Same takes nil and empty lists for alike.
func Same(a, b api.Command) bool {
	return a.Client == b.Client && a.Seq == b.Seq && sameOrder(a.Order, b.Order)
}

func sameOrder(a, b api.Order) bool {
	return a.Kind == b.Kind && a.Name == b.Name && a.On == b.On && a.Fence == b.Fence && booktest.SameNode(a.Node, b.Node) && booktest.SameTask(a.Task, b.Task)
}

// Clone has memory of its own.
func Clone(c api.Command) api.Command {
	b := booktest.Clone(api.Book{Nodes: []api.Node{c.Order.Node}, Tasks: []api.Task{c.Order.Task}})
	c.Order.Node, c.Order.Task = b.Nodes[0], b.Tasks[0]
	return c
}

// numbers are at the edges of what is spelt with so many bytes; the first one is 0.
func numbers() []uint64 {
	return []uint64{0, 1, 255, 256, 65535, 65536, 1<<32 - 1, 1 << 32, api.MaxNumber, api.MaxNumber + 1, math.MaxUint64 - 1, math.MaxUint64}
}
