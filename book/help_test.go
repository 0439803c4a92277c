package book_test

import (
	"testing"

	"gaffer/api"
	"gaffer/book"
	"gaffer/booktest"
)

type amounts = [api.Kinds]int64

// some is a book of three nodes and six tasks, four of which are on nodes.
func some() api.Book {
	return api.Book{
		Nodes: []api.Node{
			{Name: "l", Has: amounts{9, 9, 9}},
			{Name: "m", Has: amounts{9, 9, 9}, Labels: booktest.Pairs("disk", "x", "zone", "a"), Taints: booktest.Pairs("gpu", "")},
			{Name: "n", Has: amounts{5, 0, 3}},
		},
		Tasks: []api.Task{
			{Name: "a", Needs: amounts{3, 0, 1}, Group: "red"},
			{Name: "b", Needs: amounts{1, 1, 1}, Wants: booktest.Pairs("zone", "a"), Bears: booktest.Pairs("gpu", "", "old", "")},
			{Name: "c", Bears: booktest.Pairs("gpu", ""), Group: "blue", Apart: "green"},
			{Name: "d", Needs: amounts{3}, Apart: "red"},
			{Name: "e", Needs: amounts{2, 0, 2}},
			{Name: "f", Needs: amounts{9, 9, 9}, Wants: booktest.Pairs("none", "")},
		},
		Binds: []api.Bind{{Task: "a", Node: "n"}, {Task: "b", Node: "m"}, {Task: "c", Node: "m"}, {Task: "e", Node: "n"}},
		Fence: 5,
	}
}

// with is some with a change.
func with(change func(b *api.Book)) api.Book {
	b := booktest.Clone(some())
	change(&b)
	return b
}

// orders are one of each kind that is done in some.
func orders() []api.Order {
	return []api.Order{
		{Kind: api.OrderNode, Node: booktest.SomeNode()},
		{Kind: api.OrderGone, Name: "l"},
		{Kind: api.OrderTask, Task: booktest.SomeTask()},
		{Kind: api.OrderDone, Name: "a"},
		{Kind: api.OrderBind, Name: "d", On: "l", Fence: 5},
		{Kind: api.OrderFree, Name: "b"},
		{Kind: api.OrderLook, Name: "c"},
	}
}

func gone(name string) api.Order { return api.Order{Kind: api.OrderGone, Name: name} }
func done(name string) api.Order { return api.Order{Kind: api.OrderDone, Name: name} }
func free(name string) api.Order { return api.Order{Kind: api.OrderFree, Name: name} }
func look(name string) api.Order { return api.Order{Kind: api.OrderLook, Name: name} }

func node(n api.Node) api.Order { return api.Order{Kind: api.OrderNode, Node: n} }
func task(t api.Task) api.Order { return api.Order{Kind: api.OrderTask, Task: t} }

func bind(name, on string, fence uint64) api.Order {
	return api.Order{Kind: api.OrderBind, Name: name, On: on, Fence: fence}
}

// does holds what becomes of b, and what is told, against what is to be; b is to stay as it was.
func does(t *testing.T, b api.Book, o api.Order, want api.Book, told api.Told) {
	t.Helper()
	given := booktest.Clone(b)
	c, says := book.Do(given, o)
	if says != told {
		t.Errorf("%.200v of %s: told is %v, not %v", o, booktest.Brief(b), says, told)
	}
	if !booktest.Same(c, want) {
		t.Errorf("%.200v of %s: %s; not %s", o, booktest.Brief(b), booktest.Brief(c), booktest.Brief(want))
	}
	if !booktest.Same(given, b) {
		t.Errorf("%.200v of %s: what was handed in is changed", o, booktest.Brief(b))
	}
}

// refuses is of an order that leaves b as it was.
func refuses(t *testing.T, b api.Book, o api.Order, why api.Errno) {
	t.Helper()
	does(t, b, o, b, api.Told{Why: why})
}
