package booktest_test

import (
	"slices"
	"testing"

	"gaffer/api"
	"gaffer/book"
	"gaffer/booktest"
	"gaffer/rig"
)

// What is said of the nodes, tasks and books is so.
func TestRightAndWrong(t *testing.T) {
	if rig.CheckNode(booktest.SomeNode()) != api.OK || rig.CheckTask(booktest.SomeTask()) != api.OK || !rig.Suits(booktest.SomeTask(), booktest.SomeNode()) {
		t.Error("SomeNode or SomeTask is not right, or the one does not suit the other")
	}
	for i, w := range booktest.WrongNodes() {
		if why := rig.CheckNode(w.Node); why != w.Why {
			t.Errorf("node %d: error %d, not %d", i, why, w.Why)
		}
	}
	for i, w := range booktest.WrongTasks() {
		if why := rig.CheckTask(w.Task); why != w.Why {
			t.Errorf("task %d: error %d, not %d", i, why, w.Why)
		}
	}
	for what, b := range booktest.RightBooks() {
		if why := book.Check(b); why != api.OK {
			t.Errorf("%s: error %d", what, why)
		}
	}
	for what, b := range booktest.WrongBooks() {
		if why := book.Check(b); why != api.ErrState {
			t.Errorf("%s: error %d", what, why)
		}
	}
	for _, o := range booktest.Orders() {
		if _, told := book.Do(booktest.Some(), o); told.Why != api.OK {
			t.Errorf("%v: told is %v", o, told)
		}
	}
	if b := booktest.Full(); book.Check(b) != api.OK || len(b.Nodes) != api.MaxNodes || len(b.Tasks) != api.MaxTasks || len(b.Binds) != api.MaxTasks {
		t.Error("Full:", booktest.Brief(b))
	}
}

func some() api.Book {
	m, n := booktest.SomeNode(), booktest.SomeNode()
	m.Name, n.Taints = "m", nil
	s, t := booktest.SomeTask(), booktest.SomeTask()
	s.Name, s.Wants, s.Apart = "s", nil, ""
	return api.Book{Nodes: []api.Node{m, n}, Tasks: []api.Task{s, t}, Binds: []api.Bind{{Task: "s", Node: "m"}}, Fence: 3}
}

// Same looks at each field.
func TestSame(t *testing.T) {
	if !booktest.Same(some(), booktest.Clone(some())) || !booktest.Same(api.Book{}, api.Book{Nodes: []api.Node{}, Tasks: []api.Task{}, Binds: []api.Bind{}}) {
		t.Error("the same is not the same")
	}
	for i, change := range []func(b *api.Book){
		func(b *api.Book) { b.Fence++ },
		func(b *api.Book) { b.Nodes = b.Nodes[:1] },
		func(b *api.Book) { b.Tasks = b.Tasks[1:] },
		func(b *api.Book) { b.Binds = nil },
		func(b *api.Book) { b.Binds[0].Node = "n-1" },
		func(b *api.Book) { b.Nodes[1].Name = "n" },
		func(b *api.Book) { b.Nodes[1].Has[2]++ },
		func(b *api.Book) { b.Nodes[0].Labels[1].Value = "b" },
		func(b *api.Book) { b.Nodes[0].Taints = nil },
		func(b *api.Book) { b.Tasks[0].Name = "r" },
		func(b *api.Book) { b.Tasks[0].Needs[0]++ },
		func(b *api.Book) { b.Tasks[1].Wants[0].Key = "a" },
		func(b *api.Book) { b.Tasks[1].Bears = b.Tasks[1].Bears[:1] },
		func(b *api.Book) { b.Tasks[1].Group = "" },
		func(b *api.Book) { b.Tasks[1].Apart = "" },
		func(b *api.Book) { b.Tasks[1].Rank = 7 },
	} {
		b := booktest.Clone(some())
		if change(&b); booktest.Same(b, some()) {
			t.Errorf("%d: another one is the same", i)
		}
	}
}

func TestSort(t *testing.T) {
	b := booktest.Full()
	slices.Reverse(b.Nodes)
	slices.Reverse(b.Tasks)
	slices.Reverse(b.Binds)
	if booktest.Sort(b); !booktest.Same(b, booktest.Full()) {
		t.Error("another one:", booktest.Brief(b))
	}
}

// What is told of calls whose answers are new memory, and of others.
func TestShares(t *testing.T) {
	o := api.Order{Node: booktest.SomeNode(), Task: booktest.SomeTask()}
	with := func(change func(b *api.Book, o api.Order)) booktest.Call {
		return func(b api.Book, o api.Order) (api.Book, api.Told) {
			c := booktest.Clone(b)
			change(&c, o)
			return c, api.Told{}
		}
	}
	var kept api.Book
	for what, one := range map[string]struct {
		call booktest.Call
		want bool
	}{
		"its own":  {with(func(c *api.Book, o api.Order) {}), false},
		"the book": {func(b api.Book, o api.Order) (api.Book, api.Told) { return b, api.Told{} }, true},
		"its nodes": {func(b api.Book, o api.Order) (api.Book, api.Told) {
			c := booktest.Clone(b)
			c.Nodes = b.Nodes
			return c, api.Told{}
		}, true},
		"its tasks' bears": {func(b api.Book, o api.Order) (api.Book, api.Told) {
			c := booktest.Clone(b)
			c.Tasks[1].Bears = b.Tasks[1].Bears
			return c, api.Told{}
		}, true},
		"the room": {func(b api.Book, o api.Order) (api.Book, api.Told) {
			c := booktest.Clone(b)
			c.Binds = append(b.Binds, api.Bind{})
			return c, api.Told{}
		}, true},
		"the order's node": {with(func(c *api.Book, o api.Order) { c.Nodes[0] = o.Node }), true},
		"the order's task": {with(func(c *api.Book, o api.Order) { c.Tasks[0] = o.Task }), true},
		"within":           {with(func(c *api.Book, o api.Order) { c.Nodes[0].Labels = c.Nodes[1].Labels }), true},
		"within, by its room": {with(func(c *api.Book, o api.Order) {
			l := c.Nodes[0].Labels
			c.Nodes[0].Taints, c.Tasks[0].Bears = l[:1], l[1:]
		}), true},
		"the order is changed": {with(func(c *api.Book, o api.Order) { o.Node.Labels[0].Value = "changed" }), true},
		"changed": {func(b api.Book, o api.Order) (api.Book, api.Told) {
			b.Nodes[0].Name = "a"
			return booktest.Clone(b), api.Told{}
		}, true},
		"an earlier one": {func(b api.Book, o api.Order) (api.Book, api.Told) {
			if kept.Nodes == nil {
				kept = booktest.Clone(b)
			}
			return kept, api.Told{}
		}, true},
	} {
		if s := booktest.Shares(some(), o, one.call); (s != "") != one.want {
			t.Errorf("%s: told is %q", what, s)
		}
	}
}
