package book_test

import (
	"math"
	"strings"
	"testing"

	"gaffer/api"
	"gaffer/book"
	"gaffer/booktest"
)

// 8.1: Check.
func TestCheck(t *testing.T) {
	for what, b := range rights() {
		if why := book.Check(b); why != api.OK {
			t.Errorf("%s: error %d", what, why)
		}
	}
	for what, b := range wrongs() {
		if why := book.Check(b); why != api.ErrState {
			t.Errorf("%s: error %d", what, why)
		}
	}
}

// 8.1: the others answer first that the book is not right, all else being zero, whatever else is wrong.
func TestWrongBook(t *testing.T) {
	list := append(orders(), api.Order{}, look("none"), node(api.Node{}), task(api.Task{}), bind("a", "n", 0))
	for what, b := range wrongs() {
		given := booktest.Clone(b)
		for _, name := range []string{"l", "m", "none"} {
			if used, why := book.Used(given, name); used != (amounts{}) || why != api.ErrState {
				t.Errorf("%s: Used of %s: %v, error %d", what, name, used, why)
			}
			if why := book.Can(given, "d", name); why != api.ErrState {
				t.Errorf("%s: Can on %s: error %d", what, name, why)
			}
		}
		for _, o := range list {
			if c, told := book.Do(given, o); !booktest.Same(c, api.Book{}) || told != (api.Told{Why: api.ErrState}) {
				t.Errorf("%s: Do of kind %d: %s, told is %v", what, o.Kind, booktest.Brief(c), told)
			}
		}
		for _, term := range []uint64{0, 9} {
			if c, why := book.Lead(given, term); !booktest.Same(c, api.Book{}) || why != api.ErrState {
				t.Errorf("%s: Lead: %s, error %d", what, booktest.Brief(c), why)
			}
		}
		if !booktest.Same(given, b) {
			t.Errorf("%s: what was handed in is changed", what)
		}
	}
}

// Which fields an order has, of Node, Task, Name, On, Fence.
const (
	hasNode = 1 << iota
	hasTask
	hasName
	hasOn
	hasFence
)

// fieldsOf are those that a kind has, as package api says it.
func fieldsOf(kind api.OrderKind) int {
	switch kind {
	case api.OrderNode:
		return hasNode
	case api.OrderTask:
		return hasTask
	case api.OrderBind:
		return hasName | hasOn | hasFence
	}
	return hasName
}

// field sets a part of one field of an order.
type field struct {
	of  int
	set func(o *api.Order)
}

func fields() []field {
	list := []field{
		{hasNode, func(o *api.Order) { o.Node.Name = "n" }},
		{hasNode, func(o *api.Order) { o.Node.Name = "\x00" }},
		{hasNode, func(o *api.Order) { o.Node.Labels = booktest.Pairs("", "") }},
		{hasNode, func(o *api.Order) { o.Node.Labels = booktest.Pairs("a", "b", "c", "") }},
		{hasNode, func(o *api.Order) { o.Node.Taints = booktest.Pairs("", "") }},
		{hasNode, func(o *api.Order) { o.Node = booktest.SomeNode() }},
		{hasTask, func(o *api.Order) { o.Task.Name = "t" }},
		{hasTask, func(o *api.Order) { o.Task.Wants = booktest.Pairs("", "") }},
		{hasTask, func(o *api.Order) { o.Task.Bears = booktest.Pairs("", "") }},
		{hasTask, func(o *api.Order) { o.Task.Group = "g" }},
		{hasTask, func(o *api.Order) { o.Task.Apart = "g" }},
		{hasTask, func(o *api.Order) { o.Task.Rank = 1 }},
		{hasTask, func(o *api.Order) { o.Task.Rank = math.MinInt }},
		{hasTask, func(o *api.Order) { o.Task = booktest.SomeTask() }},
		{hasName, func(o *api.Order) { o.Name = "a" }},
		{hasName, func(o *api.Order) { o.Name = strings.Repeat("Z", 1000) }},
		{hasOn, func(o *api.Order) { o.On = "n" }},
		{hasOn, func(o *api.Order) { o.On = "\xff" }},
		{hasFence, func(o *api.Order) { o.Fence = 1 }},
		{hasFence, func(o *api.Order) { o.Fence = math.MaxUint64 }},
	}
	for kind := range api.Kinds {
		for _, n := range []int64{1, -1, math.MinInt64} {
			list = append(list, field{hasNode, func(o *api.Order) { o.Node.Has[kind] = n }}, field{hasTask, func(o *api.Order) { o.Task.Needs[kind] = n }})
		}
	}
	return list
}

// checksOrder asks CheckOrder, and Do, which is to be of the same mind.
func checksOrder(t *testing.T, o api.Order, want api.Errno) {
	t.Helper()
	if why := book.CheckOrder(o); why != want {
		t.Errorf("CheckOrder(%.200v): error %d, not %d", o, why, want)
	}
	if _, told := book.Do(api.Book{Fence: math.MaxUint64}, o); want != api.OK && told != (api.Told{Why: want}) {
		t.Errorf("Do of %.200v: told is %v", o, told)
	}
}

// 8.1: CheckOrder, of each kind with any one and any two fields; what stands in those that it has is no matter.
func TestCheckOrder(t *testing.T) {
	for kind := range api.OrderKind(255) {
		isOne := kind >= api.OrderNode && kind <= api.OrderLook
		want := func(set int) api.Errno {
			if !isOne || set&^fieldsOf(kind) != 0 {
				return api.ErrForm
			}
			return api.OK
		}
		checksOrder(t, api.Order{Kind: kind}, want(0))
		empty := api.Order{Kind: kind}
		empty.Node.Labels, empty.Node.Taints, empty.Task.Wants, empty.Task.Bears = []api.Pair{}, []api.Pair{}, []api.Pair{}, []api.Pair{}
		checksOrder(t, empty, want(0))
		for _, f := range fields() {
			one := empty
			f.set(&one)
			checksOrder(t, one, want(f.of))
			if !isOne {
				continue
			}
			for _, g := range fields() {
				two := one
				g.set(&two)
				checksOrder(t, two, want(f.of|g.of))
			}
		}
	}
	if why := book.CheckOrder(api.Order{Kind: 255, Name: "a"}); why != api.ErrForm {
		t.Errorf("the last of all kinds: error %d", why)
	}
}

// 8.1: Used.
func TestUsed(t *testing.T) {
	full := booktest.Full()
	great := rights()["to the last"]
	for i, one := range []struct {
		b    api.Book
		node string
		want amounts
		why  api.Errno
	}{
		{some(), "l", amounts{}, api.OK},
		{some(), "m", amounts{1, 1, 1}, api.OK},
		{some(), "n", amounts{5, 0, 3}, api.OK},
		{full, full.Nodes[0].Name, amounts{2, 4, 6}, api.OK},
		{full, full.Nodes[15].Name, amounts{2, 4, 6}, api.OK},
		{great, "n", amounts{64, api.MaxAmount, 0}, api.OK},
		{api.Book{}, "", amounts{}, api.ErrNone},
		{api.Book{}, "n", amounts{}, api.ErrNone},
		{some(), "", amounts{}, api.ErrNone},
		{some(), "a", amounts{}, api.ErrNone},
		{some(), "N", amounts{}, api.ErrNone},
		{some(), "m\x00", amounts{}, api.ErrNone},
		{some(), "z", amounts{}, api.ErrNone},
	} {
		if used, why := book.Used(one.b, one.node); used != one.want || why != one.why {
			t.Errorf("%d: %v, error %d; not %v, error %d", i, used, why, one.want, one.why)
		}
	}
}

// 8.1: Can, and Do of the same bind; which error comes first.
func TestCan(t *testing.T) {
	for i, one := range []struct {
		change     func(b *api.Book)
		task, node string
		want       api.Errno
	}{
		{nil, "d", "l", api.OK},
		{nil, "", "", api.ErrNone},
		{nil, "none", "l", api.ErrNone},
		{nil, "d", "none", api.ErrNone},
		{nil, "l", "d", api.ErrNone},
		{nil, "none", "none", api.ErrNone},
		{nil, "a", "none", api.ErrNone}, // though it is on a node
		{nil, "f", "none", api.ErrNone},
		{nil, "a", "n", api.ErrTwice},
		{nil, "a", "l", api.ErrTwice},
		{nil, "e", "l", api.ErrTwice},
		{nil, "a", "m", api.ErrTwice}, // though it does not suit
		{nil, "f", "l", api.ErrFit},
		{nil, "d", "m", api.ErrFit},
		{nil, "d", "n", api.ErrFit},
		{func(b *api.Book) { b.Tasks[5].Wants = nil }, "f", "l", api.OK},
		{func(b *api.Book) { b.Tasks[3].Wants = booktest.Pairs("zone", "a") }, "d", "l", api.ErrFit},
		{func(b *api.Book) {
			b.Nodes[0].Labels, b.Tasks[3].Wants = booktest.Pairs("zone", "a"), booktest.Pairs("zone", "a")
		}, "d", "l", api.OK},
		{func(b *api.Book) { b.Nodes[0].Taints = booktest.Pairs("old", "") }, "d", "l", api.ErrFit},
		{func(b *api.Book) {
			b.Nodes[0].Taints, b.Tasks[3].Bears = booktest.Pairs("old", ""), booktest.Pairs("old", "")
		}, "d", "l", api.OK},
		{func(b *api.Book) { b.Tasks[3].Bears = booktest.Pairs("gpu", "") }, "d", "m", api.OK},
		{func(b *api.Book) { b.Tasks[3].Bears, b.Tasks[3].Apart = booktest.Pairs("gpu", ""), "blue" }, "d", "m", api.ErrFit},
		{func(b *api.Book) { b.Tasks[3].Bears, b.Tasks[3].Group = booktest.Pairs("gpu", ""), "green" }, "d", "m", api.ErrFit},
		{func(b *api.Book) { b.Nodes[2].Has[0] = 8 }, "d", "n", api.ErrFit}, // a is in its way
		{func(b *api.Book) { b.Nodes[2].Has[0], b.Tasks[0].Group = 8, "" }, "d", "n", api.OK},
		{func(b *api.Book) { b.Nodes[2].Has[0], b.Tasks[0].Group = 7, "" }, "d", "n", api.ErrFit},
		{func(b *api.Book) { b.Tasks[3] = api.Task{Name: "d"} }, "d", "n", api.OK},
		{func(b *api.Book) { b.Tasks[3] = api.Task{Name: "d", Needs: amounts{0, 1}} }, "d", "n", api.ErrFit},
		{func(b *api.Book) { b.Tasks[3] = api.Task{Name: "d", Needs: amounts{0, 0, 1}} }, "d", "n", api.ErrFit},
		{func(b *api.Book) { b.Tasks[3] = api.Task{Name: "d", Group: "grey", Apart: "grey"} }, "d", "n", api.OK},
		{func(b *api.Book) { b.Tasks[3].Needs, b.Tasks[4].Group, b.Tasks[0].Group = amounts{}, "red", "" }, "d", "n", api.ErrFit}, // e is, the last one
		{func(b *api.Book) { b.Tasks[3] = api.Task{Name: "d", Group: "g"}; b.Tasks[4].Apart = "g" }, "d", "n", api.ErrFit},
		{func(b *api.Book) { b.Tasks[3] = api.Task{Name: "d", Group: "g"}; b.Tasks[4].Apart = "g" }, "d", "l", api.OK},
	} {
		if one.change == nil {
			one.change = func(b *api.Book) {}
		}
		b := with(one.change)
		if why := book.Can(b, one.task, one.node); why != one.want {
			t.Errorf("%d: Can: error %d, not %d", i, why, one.want)
		}
		if c, told := book.Do(b, bind(one.task, one.node, b.Fence)); told != (api.Told{Why: one.want}) || booktest.Same(b, c) != (one.want != api.OK) {
			t.Errorf("%d: Do: told is %v, not %d", i, told, one.want)
		}
	}
}
