package book_test

import (
	"math"
	"slices"
	"testing"

	"gaffer/api"
	"gaffer/book"
	"gaffer/booktest"
)

var ok = api.Told{}

// 8.2: OrderNode, at each place in the row of names.
func TestNode(t *testing.T) {
	for name, at := range map[string]int{"0": 0, "k": 0, "l-": 1, "la": 1, "m0": 2, "n-1": 3, "z": 3} {
		n := booktest.SomeNode()
		n.Name = name
		does(t, some(), node(n), with(func(b *api.Book) { b.Nodes = slices.Insert(b.Nodes, at, n) }), ok)
	}
	does(t, api.Book{}, node(api.Node{Name: "a"}), api.Book{Nodes: []api.Node{{Name: "a"}}}, ok)
	does(t, some(), node(api.Node{Name: "a"}), with(func(b *api.Book) { b.Nodes = slices.Insert(b.Nodes, 0, api.Node{Name: "a"}) }), ok) // a task's name
	for _, name := range []string{"l", "m", "n"} {
		refuses(t, some(), node(api.Node{Name: name}), api.ErrTwice)
	}
	for _, w := range booktest.WrongNodes() {
		refuses(t, some(), node(w.Node), w.Why)
		refuses(t, booktest.Full(), node(w.Node), w.Why)
		if w.Why != api.ErrName {
			w.Node.Name = "l" // is there already, too
			refuses(t, some(), node(w.Node), w.Why)
		}
	}
}

// 8.2: OrderTask, likewise.
func TestTask(t *testing.T) {
	for name, at := range map[string]int{"-": 0, "0": 0, "a-": 1, "aa": 1, "e9": 5, "t-1": 6, "z": 6} {
		k := booktest.SomeTask()
		k.Name = name
		does(t, some(), task(k), with(func(b *api.Book) { b.Tasks = slices.Insert(b.Tasks, at, k) }), ok)
	}
	does(t, api.Book{}, task(api.Task{Name: "a"}), api.Book{Tasks: []api.Task{{Name: "a"}}}, ok)
	does(t, some(), task(api.Task{Name: "l"}), with(func(b *api.Book) { b.Tasks = append(b.Tasks, api.Task{Name: "l"}) }), ok) // a node's name
	for _, name := range []string{"a", "c", "f"} {
		refuses(t, some(), task(api.Task{Name: name}), api.ErrTwice)
	}
	for _, w := range booktest.WrongTasks() {
		refuses(t, some(), task(w.Task), w.Why)
		refuses(t, booktest.Full(), task(w.Task), w.Why)
		if w.Why != api.ErrName {
			w.Task.Name = "a"
			refuses(t, some(), task(w.Task), w.Why)
		}
	}
}

// 8.2: a full book, and one that is so nearly.
func TestFull(t *testing.T) {
	full := booktest.Full()
	for _, name := range []string{"a", "n101", "z"} {
		refuses(t, full, node(api.Node{Name: name}), api.ErrFull)
		refuses(t, full, task(api.Task{Name: name}), api.ErrFull)
	}
	for _, n := range full.Nodes {
		refuses(t, full, node(n), api.ErrTwice)
	}
	for _, k := range full.Tasks {
		refuses(t, full, task(k), api.ErrTwice)
	}
	for at, n := range full.Nodes {
		b := booktest.Clone(full)
		b.Nodes = slices.Delete(b.Nodes, at, at+1)
		b.Binds = slices.DeleteFunc(b.Binds, func(on api.Bind) bool { return on.Node == n.Name })
		want := booktest.Clone(full)
		want.Binds = b.Binds
		does(t, b, node(n), want, ok)
		does(t, want, gone(n.Name), b, ok)
	}
	for at, k := range full.Tasks {
		b := booktest.Clone(full)
		b.Tasks = slices.Delete(b.Tasks, at, at+1)
		b.Binds = slices.Delete(b.Binds, at, at+1)
		want := booktest.Clone(full)
		want.Binds = b.Binds
		does(t, b, task(k), want, ok)
		does(t, full, done(k.Name), b, ok)
		does(t, want, bind(k.Name, full.Binds[at].Node, 5), full, ok)
		does(t, full, free(k.Name), want, ok)
		does(t, full, look(k.Name), full, api.Told{Text: full.Binds[at].Node})
		does(t, want, look(k.Name), want, ok)
	}
}

// no are names that there are not.
var no = []string{"", "0", "A", "a-", "z", "\xff", "l\x00"}

// 8.2: OrderGone.
func TestGone(t *testing.T) {
	does(t, some(), gone("l"), with(func(b *api.Book) { b.Nodes = b.Nodes[1:] }), ok)
	refuses(t, some(), gone("m"), api.ErrBusy)
	refuses(t, some(), gone("n"), api.ErrBusy)
	for _, name := range append(no, "a", "b") {
		refuses(t, some(), gone(name), api.ErrNone)
	}
	last := with(func(b *api.Book) { b.Binds = b.Binds[3:] })
	refuses(t, last, gone("n"), api.ErrBusy)
	does(t, last, gone("m"), with(func(b *api.Book) { b.Binds = b.Binds[3:]; b.Nodes = slices.Delete(b.Nodes, 1, 2) }), ok)
	does(t, api.Book{Nodes: []api.Node{{Name: "a"}}}, gone("a"), api.Book{}, ok)
	refuses(t, api.Book{}, gone("a"), api.ErrNone)
}

// 8.2: OrderDone, of a task that is on a node, and of one that waits.
func TestDone(t *testing.T) {
	does(t, some(), done("a"), with(func(b *api.Book) { b.Tasks, b.Binds = b.Tasks[1:], b.Binds[1:] }), ok)
	does(t, some(), done("c"), with(func(b *api.Book) { b.Tasks, b.Binds = slices.Delete(b.Tasks, 2, 3), slices.Delete(b.Binds, 2, 3) }), ok)
	does(t, some(), done("d"), with(func(b *api.Book) { b.Tasks = slices.Delete(b.Tasks, 3, 4) }), ok)
	does(t, some(), done("f"), with(func(b *api.Book) { b.Tasks = b.Tasks[:5] }), ok)
	for _, name := range append(no, "l", "m") {
		refuses(t, some(), done(name), api.ErrNone)
	}
	refuses(t, api.Book{}, done("a"), api.ErrNone)
}

// 8.2: OrderBind, at each place in the row of binds.
func TestBind(t *testing.T) {
	for at, name := range []string{"a", "b", "c", "d", "e"} {
		given := with(func(b *api.Book) {
			b.Binds = nil
			for _, other := range []string{"a", "b", "c", "d", "e"} {
				if other != name {
					b.Binds = append(b.Binds, api.Bind{Task: other, Node: "big"})
				}
			}
			b.Nodes = append([]api.Node{{Name: "big", Has: amounts{99, 99, 99}, Labels: booktest.Pairs("zone", "a")}}, b.Nodes...)
			b.Tasks[3].Apart = ""
		})
		want := booktest.Clone(given)
		want.Binds = slices.Insert(want.Binds, at, api.Bind{Task: name, Node: "big"})
		does(t, given, bind(name, "big", 5), want, ok)
		does(t, want, free(name), given, ok)
		refuses(t, want, bind(name, "big", 5), api.ErrTwice)
		refuses(t, want, bind(name, "l", 5), api.ErrTwice)
		refuses(t, want, gone("big"), api.ErrBusy)
	}
	for _, name := range no {
		refuses(t, some(), bind(name, "l", 5), api.ErrNone)
		refuses(t, some(), bind("d", name, 5), api.ErrNone)
	}
}

// 8.2 and the chapter's example: what two tasks need together.
func TestExample(t *testing.T) {
	b := api.Book{Nodes: []api.Node{{Name: "n", Has: amounts{5}}}, Tasks: []api.Task{{Name: "a", Needs: amounts{3}}, {Name: "b", Needs: amounts{3}}}}
	first := booktest.Clone(b)
	first.Binds = []api.Bind{{Task: "a", Node: "n"}}
	does(t, b, bind("a", "n", 0), first, ok)
	refuses(t, first, bind("b", "n", 0), api.ErrFit)
	second := booktest.Clone(b)
	second.Binds = []api.Bind{{Task: "b", Node: "n"}}
	freed, _ := book.Do(first, free("a"))
	does(t, freed, bind("b", "n", 0), second, ok)
}

// 8.2: OrderFree.
func TestFree(t *testing.T) {
	for at, name := range []string{"a", "b", "c", "e"} {
		does(t, some(), free(name), with(func(b *api.Book) { b.Binds = slices.Delete(b.Binds, at, at+1) }), ok)
	}
	refuses(t, some(), free("d"), api.ErrState)
	refuses(t, some(), free("f"), api.ErrState)
	for _, name := range append(no, "l", "m") {
		refuses(t, some(), free(name), api.ErrNone)
	}
}

// 8.2 and 8.7: OrderLook.
func TestLook(t *testing.T) {
	for name, on := range map[string]string{"a": "n", "b": "m", "c": "m", "d": "", "e": "n", "f": ""} {
		does(t, some(), look(name), some(), api.Told{Text: on})
	}
	for _, name := range append(no, "l", "m") {
		refuses(t, some(), look(name), api.ErrNone)
	}
}

// 8.2: that an order is not right is told ahead of all that it asks; what is done tells no text.
func TestOrderNotRight(t *testing.T) {
	b := some()
	for _, o := range []api.Order{
		{},
		{Kind: api.OrderCount, Name: "a"},
		{Kind: 255},
		{Kind: api.OrderNode, Node: booktest.SomeNode(), Name: "a"},
		{Kind: api.OrderNode, Fence: 1},
		{Kind: api.OrderNode, Node: b.Nodes[0], Task: api.Task{Rank: 1}},
		{Kind: api.OrderGone, Name: "l", Fence: 9},
		{Kind: api.OrderGone, Name: "none", On: "n"},
		{Kind: api.OrderTask, Task: booktest.SomeTask(), On: "n"},
		{Kind: api.OrderTask, Task: api.Task{Name: "T"}, Name: "t"},
		{Kind: api.OrderDone, Name: "a", Node: api.Node{Has: amounts{0, 0, 1}}},
		{Kind: api.OrderBind, Name: "d", On: "l", Fence: 4, Task: api.Task{Needs: amounts{0, 1}}},
		{Kind: api.OrderBind, Name: "d", On: "l", Fence: 5, Node: api.Node{Labels: booktest.Pairs("", "")}},
		{Kind: api.OrderFree, Name: "d", On: "n"},
		{Kind: api.OrderLook, Name: "a", Fence: 5},
		{Kind: api.OrderLook, Name: "none", On: "n"},
	} {
		refuses(t, b, o, api.ErrForm)
	}
	for _, o := range orders() {
		if _, told := book.Do(b, o); told.Why != api.OK || told.Text != "" && o.Kind != api.OrderLook {
			t.Errorf("%v: told is %v", o, told)
		}
	}
	// A name that is none, in an order that is right, is of nothing that there is.
	for _, kind := range []api.OrderKind{api.OrderGone, api.OrderDone, api.OrderFree, api.OrderLook, api.OrderBind} {
		refuses(t, b, api.Order{Kind: kind, Fence: fenceOf(kind)}, api.ErrNone)
	}
}

// fenceOf is what the orders of a kind need to be heard at all.
func fenceOf(kind api.OrderKind) uint64 {
	if kind == api.OrderBind {
		return 5
	}
	return 0
}

// 8.2 and 8.6: a Fence just below the book's, at it and above; it is told ahead of all that Can would say.
func TestFence(t *testing.T) {
	for _, fence := range []uint64{0, 1, 2, 5, api.MaxNumber, math.MaxUint64 - 1, math.MaxUint64} {
		b := with(func(b *api.Book) { b.Fence = fence })
		want := booktest.Clone(b)
		want.Binds = slices.Insert(want.Binds, 3, api.Bind{Task: "d", Node: "l"})
		does(t, b, bind("d", "l", fence), want, ok)
		does(t, b, bind("d", "l", math.MaxUint64), want, ok)
		does(t, b, bind("d", "l", max(fence, fence+1)), want, ok) // the book's own stays
		if fence == 0 {
			continue
		}
		for _, below := range []uint64{0, fence / 2, fence - 1} {
			for _, o := range []api.Order{bind("d", "l", below), bind("none", "l", below), bind("d", "none", below), bind("a", "n", below), bind("f", "l", below), bind("", "", below)} {
				refuses(t, b, o, api.ErrFence)
			}
		}
		for _, o := range orders() { // no other kind asks for it
			if o.Kind != api.OrderBind {
				if _, told := book.Do(b, o); told.Why != api.OK {
					t.Errorf("fence %d, %v: told is %v", fence, o, told)
				}
			}
		}
	}
}

// 8.3: Lead, of terms that are greater, the same, or less.
func TestLead(t *testing.T) {
	terms := []uint64{0, 1, 4, 5, 6, api.MaxNumber, math.MaxUint64 - 1, math.MaxUint64}
	for _, fence := range terms {
		for _, term := range terms {
			for what, b := range rights() {
				b.Fence = fence
				given, want := booktest.Clone(b), booktest.Clone(b)
				want.Fence = max(fence, term)
				if c, why := book.Lead(given, term); !booktest.Same(c, want) || why != api.OK {
					t.Errorf("%s, fence %d, term %d: %s, error %d", what, fence, term, booktest.Brief(c), why)
				}
				if !booktest.Same(given, b) {
					t.Errorf("%s, fence %d, term %d: what was handed in is changed", what, fence, term)
				}
			}
		}
	}
}
