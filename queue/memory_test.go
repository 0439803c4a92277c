package queue_test

import (
	"slices"
	"testing"

	"gaffer/api"
	"gaffer/booktest"
	"gaffer/queue"
)

// calls answer all that a call does as a book.
func calls() map[string]booktest.Call {
	free := func(task string) booktest.Call {
		return func(b api.Book, _ api.Order) (api.Book, api.Told) {
			l, why := queue.Free(b, task)
			var c api.Book
			for _, name := range l {
				c.Binds = append(c.Binds, api.Bind{Node: name})
			}
			return c, api.Told{Why: why}
		}
	}
	return map[string]booktest.Call{
		"Waiting": func(b api.Book, _ api.Order) (api.Book, api.Told) {
			l, why := queue.Waiting(b)
			return api.Book{Tasks: l}, api.Told{Why: why}
		},
		"Loads": func(b api.Book, _ api.Order) (api.Book, api.Told) {
			l, why := queue.Loads(b)
			var c api.Book
			for _, one := range l {
				c.Nodes = append(c.Nodes, one.Node)
			}
			return c, api.Told{Why: why}
		},
		"Free": free("d"), "Free of one on a node": free("a"), "Free of none": free("none"),
	}
}

// asked are books of which something is answered, and books that are not right.
func asked() map[string]api.Book {
	list := booktest.RightBooks()
	list["all wait"] = booktest.With(func(b *api.Book) { b.Binds, b.Tasks[3].Bears = nil, booktest.Pairs("gpu", "") })
	full := booktest.Full()
	full.Binds = full.Binds[:9]
	list["many wait"] = full
	list["names that fall"] = booktest.With(func(b *api.Book) { slices.Reverse(b.Tasks) })
	list["of no node"] = booktest.With(func(b *api.Book) { b.Binds[0].Node = "z" })
	return list
}

// 11.2: an answer is new memory, and what is handed in is neither changed nor kept.
func TestNewMemory(t *testing.T) {
	for what, call := range calls() {
		for which, b := range asked() {
			if s := booktest.Shares(b, api.Order{}, call); s != "" {
				t.Errorf("%s, %s: %s", what, which, s)
			}
		}
	}
}

// 11.2: no list of an answer is that of another one.
func TestLasts(t *testing.T) {
	for which, b := range asked() {
		if !booktest.Lasts(func() []api.Task { l, _ := queue.Waiting(b); return l }, booktest.SameTask) {
			t.Errorf("Waiting, %s: two answers share memory", which)
		}
		sameLoad := func(x, y api.Load) bool { return booktest.SameNode(x.Node, y.Node) && x.Used == y.Used }
		if !booktest.Lasts(func() []api.Load { l, _ := queue.Loads(b); return l }, sameLoad) {
			t.Errorf("Loads, %s: two answers share memory", which)
		}
		sameName := func(x, y string) bool { return x == y }
		if !booktest.Lasts(func() []string { l, _ := queue.Free(b, "d"); return l }, sameName) {
			t.Errorf("Free, %s: two answers share memory", which)
		}
	}
}

// 11.2: no two lists of an answer share memory, even if those that were handed in do.
func TestListsApart(t *testing.T) {
	one := booktest.Pairs("a", "", "b", "", "c", "", "d", "")
	b := booktest.With(func(b *api.Book) {
		b.Binds = nil
		for i := range b.Nodes {
			b.Nodes[i].Labels, b.Nodes[i].Taints = one[:2], one
		}
		for i := range b.Tasks {
			b.Tasks[i].Wants, b.Tasks[i].Bears = one[1:3], one
		}
	})
	whole := booktest.Clone(b)
	for what, call := range calls() {
		if c, _ := call(b, api.Order{}); !booktest.Apart(c) {
			t.Errorf("%s: two lists share memory", what)
		}
		if !booktest.Same(b, whole) {
			t.Fatalf("%s: the answer shares memory with what was handed in", what)
		}
	}
}
