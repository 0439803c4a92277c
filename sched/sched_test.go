package sched_test

import (
	"fmt"
	"math"
	"slices"
	"testing"

	"gaffer/api"
	"gaffer/book"
	"gaffer/booktest"
	"gaffer/sched"
)

type amounts = [api.Kinds]int64

func node(name string, has int64) api.Node {
	return api.Node{Name: name, Has: amounts{has}}
}

func task(name string, needs int64, rank int) api.Task {
	return api.Task{Name: name, Needs: amounts{needs}, Rank: rank}
}

// with is a change of b's task of that place.
func with(b api.Book, at int, change func(k *api.Task)) api.Book {
	b = booktest.Clone(b)
	change(&b.Tasks[at])
	return b
}

// steps are a task, its node, the next task, and so on, as a plan has them.
func steps(fence uint64, names ...string) []api.Order {
	var l []api.Order
	for i := 0; i < len(names); i += 2 {
		l = append(l, api.Order{Kind: api.OrderBind, Name: names[i], On: names[i+1], Fence: fence})
	}
	return l
}

// same asks for all that an order has: but those that a bind has, all is zero.
func same(a, b api.Order) bool {
	return a.Kind == b.Kind && booktest.SameNode(a.Node, b.Node) && booktest.SameTask(a.Task, b.Task) && a.Name == b.Name && a.On == b.On && a.Fence == b.Fence
}

// brief is few words on a plan.
func brief(l []api.Order) string {
	s := fmt.Sprint(len(l), " steps")
	for _, o := range l {
		s += fmt.Sprintf(" %s:%s:%d", o.Name, o.On, o.Fence)
	}
	return s
}

// plans asks Plan, with fences of all kinds, and Quiet.
func plans(t *testing.T, what string, b api.Book, names ...string) {
	t.Helper()
	for _, fence := range []uint64{0, 1, 4, 5, 6, math.MaxUint64} {
		want := steps(fence, names...)
		if l, why := sched.Plan(b, fence); !slices.EqualFunc(l, want, same) || why != api.OK {
			t.Errorf("%s: fence %d: %s, error %d; not %s", what, fence, brief(l), why, brief(want))
		}
	}
	if quiet, why := sched.Quiet(b); quiet != (len(names) == 0) || why != api.OK {
		t.Errorf("%s: quiet is %v, error %d", what, quiet, why)
	}
}

// 12.1: the chapter's example.
func TestExample(t *testing.T) {
	b := api.Book{Nodes: []api.Node{node("n", 5)}, Tasks: []api.Task{task("a", 3, 1), task("b", 3, 2)}}
	plans(t, "the example", b, "b", "n")
	b.Tasks[0].Rank = 2
	plans(t, "of one rank", b, "a", "n")
	b.Tasks[0].Rank = 3
	plans(t, "the other one", b, "a", "n")
	b.Nodes[0].Has[0] = 6
	plans(t, "both", b, "a", "n", "b", "n")
	b.Nodes[0].Has[0] = 2
	plans(t, "none", b)
}

// 12.1: a book in which nothing is to be done.
func TestNothing(t *testing.T) {
	plans(t, "nothing", api.Book{})
	plans(t, "a fence alone", api.Book{Fence: math.MaxUint64})
	plans(t, "nodes alone", booktest.RightBooks()["nodes alone"])
	plans(t, "tasks alone", booktest.RightBooks()["tasks alone"])
	plans(t, "all are on nodes", booktest.Full())
	plans(t, "to the last", booktest.RightBooks()["to the last"])
	plans(t, "a task that can be nowhere", booktest.With(func(b *api.Book) { b.Nodes = b.Nodes[1:] }))
	plans(t, "some", booktest.Some(), "d", "l")
	// A node that would be better moves nobody.
	b := api.Book{Nodes: []api.Node{node("m", 9), node("n", 3)}, Tasks: []api.Task{task("a", 3, 0)}, Binds: []api.Bind{{Task: "a", Node: "m"}}}
	plans(t, "on the worse one", b)
}

// 12.1: tasks are planned as they wait: by ranks, that may be equal, and below 0, then by names.
func TestOrder(t *testing.T) {
	b := api.Book{Nodes: []api.Node{node("n", 2)}, Tasks: []api.Task{task("a", 1, -1), task("b", 1, -3), task("c", 1, -1), task("d", 1, 0), task("e", 1, -2)}}
	plans(t, "below 0", b, "d", "n", "a", "n")
	b.Nodes[0].Has[0] = 5
	plans(t, "all", b, "d", "n", "a", "n", "c", "n", "e", "n", "b", "n")
	plans(t, "the edges", with(with(b, 0, func(k *api.Task) { k.Rank = -1000 }), 4, func(k *api.Task) { k.Rank = 1000 }), "e", "n", "d", "n", "c", "n", "b", "n", "a", "n")
	b.Binds = []api.Bind{{Task: "c", Node: "n"}, {Task: "d", Node: "n"}}
	plans(t, "two are there", b, "a", "n", "e", "n", "b", "n")
}

// 12.1: one that can be nowhere holds up nobody, and is no step.
func TestNowhere(t *testing.T) {
	b := api.Book{Nodes: []api.Node{node("m", 4), node("n", 5)}, Tasks: []api.Task{task("a", 6, 9), task("b", 5, 8), task("c", 5, 7), task("d", 4, 6), task("e", 1, 5), task("f", 0, 4)}}
	plans(t, "too great", b, "b", "n", "d", "m", "f", "m")
	plans(t, "a want", with(b, 1, func(k *api.Task) { k.Wants = booktest.Pairs("zone", "a") }), "c", "n", "d", "m", "f", "m")
	b.Nodes[1].Taints = booktest.Pairs("gpu", "")
	plans(t, "a taint", b, "d", "m", "f", "m")
	plans(t, "that is borne", with(b, 2, func(k *api.Task) { k.Bears = booktest.Pairs("gpu", "", "old", "") }), "c", "n", "d", "m", "f", "m")
}

// 12.1: the best node is the fullest one, in the book as the steps ahead leave it.
func TestBest(t *testing.T) {
	b := api.Book{
		Nodes: []api.Node{node("l", 10), node("m", 10), node("n", 10)},
		Tasks: []api.Task{task("a", 2, 0), task("b", 3, 9), task("c", 4, 8), task("d", 5, 7), task("e", 6, 6)},
		Binds: []api.Bind{{Task: "a", Node: "m"}},
	}
	plans(t, "fuller and fuller", b, "b", "m", "c", "m", "d", "l", "e", "n")
	b.Nodes[2].Has[0] = 11
	plans(t, "the last one is greater", b, "b", "m", "c", "m", "d", "l", "e", "n")
	plans(t, "beside one another", with(b, 4, func(k *api.Task) { k.Needs[0] = 5 }), "b", "m", "c", "m", "d", "l", "e", "l")
	b.Nodes[2].Has[0] = 9
	plans(t, "the last one is smaller", b, "b", "m", "c", "m", "d", "n", "e", "l")
	b.Nodes[2].Has = amounts{10, 4, 4}
	plans(t, "kinds that it does not need", b, "b", "m", "c", "m", "d", "l", "e", "n")
	b.Nodes[0].Has, b.Tasks[3].Needs = amounts{10, 5}, amounts{5, 4}
	plans(t, "two kinds", b, "b", "m", "c", "m", "d", "n", "e", "l")
}

// 12.1: of several nodes that are equally good the first one by name.
func TestEquallyGood(t *testing.T) {
	var b api.Book
	for _, name := range []string{"-", "9", "a", "a-", "a0", "aa", "b"} {
		b.Nodes = append(b.Nodes, node(name, 5))
	}
	for i := range 9 {
		b.Tasks = append(b.Tasks, task(fmt.Sprint("t", i), 3, 0))
	}
	plans(t, "one each", b, "t0", "-", "t1", "9", "t2", "a", "t3", "a-", "t4", "a0", "t5", "aa", "t6", "b")
	for i := range b.Tasks {
		b.Tasks[i].Needs = amounts{}
	}
	plans(t, "all on the first", b, "t0", "-", "t1", "-", "t2", "-", "t3", "-", "t4", "-", "t5", "-", "t6", "-", "t7", "-")
	b.Nodes[3].Has = amounts{10, 2} // another node, but as good
	plans(t, "another node", b, "t0", "-", "t1", "-", "t2", "-", "t3", "-", "t4", "-", "t5", "-", "t6", "-", "t7", "-")
}

// 12.1: a better node on which the task is not borne is none, whoever stands there, of the book or of the plan.
func TestApart(t *testing.T) {
	b := api.Book{
		Nodes: []api.Node{node("m", 9), node("n", 90)},
		Tasks: []api.Task{task("a", 3, 9), task("b", 3, 8), task("c", 3, 7)},
	}
	plans(t, "all borne", b, "a", "m", "b", "m", "c", "m")
	b.Tasks[0].Group, b.Tasks[1].Apart = "red", "red"
	plans(t, "apart of the first", b, "a", "m", "b", "n", "c", "m")
	b.Tasks[0].Group, b.Tasks[0].Apart, b.Tasks[1].Group, b.Tasks[1].Apart = "", "red", "red", ""
	plans(t, "the first apart", b, "a", "m", "b", "n", "c", "m")
	plans(t, "apart of both", with(b, 2, func(k *api.Task) { k.Group, k.Apart = "red", "red" }), "a", "m", "b", "n")
	b.Binds = []api.Bind{{Task: "a", Node: "n"}}
	plans(t, "it is there", b, "b", "m", "c", "m")
	b.Nodes = b.Nodes[1:]
	plans(t, "nowhere else", b, "c", "n")
	b.Tasks[2].Apart = "red"
	plans(t, "both are borne by the first alone", b, "c", "n")
	b.Tasks[2].Group = "red"
	plans(t, "none", b)
}

// 12.1: a plan ends behind eight steps, whoever waits still; those that can be nowhere do not count.
func TestMaxBatch(t *testing.T) {
	b := api.Book{Nodes: []api.Node{node("n", 20)}}
	var names []string
	for i := range api.MaxTasks {
		k := task(fmt.Sprint("t", 100+i), 1, 0)
		b.Tasks = append(b.Tasks, k)
		names = append(names, k.Name, "n")
		plans(t, fmt.Sprint(i+1, " wait"), b, names[:2*min(i+1, 8)]...)
	}
	for i := range 20 {
		b.Tasks[i].Needs[0] = 21
	}
	plans(t, "twenty can be nowhere", b, names[40:56]...)
	for i := range 6 {
		b.Tasks[20+2*i].Needs[0] = 21
	}
	plans(t, "six of those left alone can be somewhere", b, "t121", "n", "t123", "n", "t125", "n", "t127", "n", "t129", "n", "t131", "n")
	b.Tasks[0].Rank, b.Tasks[0].Needs[0] = 1, 14
	plans(t, "and one ahead of all", b, "t100", "n", "t121", "n", "t123", "n", "t125", "n", "t127", "n", "t129", "n", "t131", "n")
	b.Tasks[0].Needs[0] = 16
	plans(t, "the greatest part of it", b, "t100", "n", "t121", "n", "t123", "n", "t125", "n", "t127", "n")
}

// 12.1: amounts at their edges.
func TestGreat(t *testing.T) {
	const m = api.MaxAmount
	b := api.Book{
		Nodes: []api.Node{{Name: "l", Has: amounts{m, m, m}}, {Name: "m", Has: amounts{m, m, m - 1}}, {Name: "n", Has: amounts{m - 1, m, m}}},
		Tasks: []api.Task{{Name: "a", Needs: amounts{m, m, m}}, {Name: "b", Needs: amounts{m, m, m}}, {Name: "c", Needs: amounts{m - 1, 0, m}}, {Name: "d", Needs: amounts{1, 1, 1}}, {Name: "e"}},
	}
	plans(t, "great", b, "a", "l", "c", "n", "d", "m", "e", "l")
	b.Tasks[3].Rank = 1
	plans(t, "one ahead, of which no score tells", b, "d", "l", "c", "n", "e", "n")
}

// 12.1: of a book that is not right both answer that, and nothing else, whatever the fence is.
func TestWrongBooks(t *testing.T) {
	for what, b := range booktest.WrongBooks() {
		for _, fence := range []uint64{0, 5, math.MaxUint64} {
			if l, why := sched.Plan(b, fence); len(l) != 0 || why != api.ErrState {
				t.Errorf("%s: Plan: %s, error %d", what, brief(l), why)
			}
		}
		if quiet, why := sched.Quiet(b); quiet || why != api.ErrState {
			t.Errorf("%s: quiet is %v, error %d", what, quiet, why)
		}
	}
}

// 12.3: of a book whose Fence is below the plan's, or as it, each step is OK; above it none is, though the plan is the same.
func TestFence(t *testing.T) {
	const fence = 7
	for _, of := range []uint64{0, 1, fence - 1, fence, fence + 1, math.MaxUint64} {
		b := api.Book{Nodes: []api.Node{node("m", 4), node("n", 3)}, Tasks: []api.Task{task("a", 3, 0), task("b", 3, 0), task("c", 1, 0), task("d", 1, 0)}, Fence: of}
		l, why := sched.Plan(b, fence)
		if want := steps(fence, "a", "n", "b", "m", "c", "m"); !slices.EqualFunc(l, want, same) || why != api.OK {
			t.Errorf("a book's fence %d: %s, error %d", of, brief(l), why)
		}
		want := api.Told{}
		if of > fence {
			want.Why = api.ErrFence
		}
		for _, o := range l {
			var told api.Told
			if b, told = book.Do(b, o); told != want {
				t.Errorf("a book's fence %d: %v: told is %v", of, o, told)
			}
		}
		if quiet, _ := sched.Quiet(b); quiet != (of <= fence) {
			t.Errorf("a book's fence %d: quiet is %v", of, quiet)
		}
	}
}
