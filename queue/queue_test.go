package queue_test

import (
	"fmt"
	"slices"
	"testing"

	"gaffer/api"
	"gaffer/booktest"
	"gaffer/queue"
)

type amounts = [api.Kinds]int64

// ranked is a task of which no more is asked than when its turn comes.
func ranked(name string, rank int) api.Task { return api.Task{Name: name, Rank: rank} }

// in is a book of those tasks, of which the ones named are on its only node.
func in(tasks []api.Task, on ...string) api.Book {
	b := api.Book{Nodes: []api.Node{{Name: "n"}}, Tasks: tasks}
	for _, name := range on {
		b.Binds = append(b.Binds, api.Bind{Task: name, Node: "n"})
	}
	booktest.Sort(b)
	return b
}

// waits asks Waiting, and holds the names against those that are to be told.
func waits(t *testing.T, what string, b api.Book, want ...string) {
	t.Helper()
	l, why := queue.Waiting(b)
	var names []string
	for _, k := range l {
		names = append(names, k.Name)
	}
	if !slices.Equal(names, want) || why != api.OK {
		t.Errorf("%s: %q, error %d, not %q", what, names, why, want)
	}
}

// 11.1: Waiting, in order: the chapter's example, ranks that are equal, below 0 and at the edges, names by bytes.
func TestWaiting(t *testing.T) {
	abc := []api.Task{ranked("c", 1), ranked("b", 5), ranked("a", 5)}
	waits(t, "the example", in(abc), "a", "b", "c")
	waits(t, "without a node", api.Book{Tasks: []api.Task{ranked("a", 5), ranked("b", 5), ranked("c", 1)}}, "a", "b", "c")
	waits(t, "one is on a node", in(abc, "a"), "b", "c")
	waits(t, "the last is", in(abc, "c"), "a", "b")
	waits(t, "one waits", in(abc, "a", "c"), "b")
	waits(t, "none waits", in(abc, "a", "b", "c"))
	waits(t, "nothing", api.Book{})
	waits(t, "nodes alone", booktest.RightBooks()["nodes alone"])
	waits(t, "all are on nodes", booktest.Full())
	waits(t, "some", booktest.Some(), "d", "f")

	waits(t, "ranks that fall", in([]api.Task{ranked("a", 3), ranked("b", 2), ranked("c", 1)}), "a", "b", "c")
	waits(t, "ranks that rise", in([]api.Task{ranked("a", 1), ranked("b", 2), ranked("c", 3)}), "c", "b", "a")
	waits(t, "below 0", in([]api.Task{ranked("a", -3), ranked("b", -1), ranked("c", -2)}), "b", "c", "a")
	waits(t, "about 0", in([]api.Task{ranked("a", -1), ranked("b", 0), ranked("c", 1), ranked("d", -1), ranked("e", 0), ranked("f", 1)}), "c", "f", "b", "e", "a", "d")
	waits(t, "the edges", in([]api.Task{ranked("a", -1000), ranked("b", 1000), ranked("c", -999), ranked("d", 999), ranked("e", 1000)}), "b", "e", "d", "c", "a")
	waits(t, "equal", in([]api.Task{ranked("c", -7), ranked("a", -7), ranked("b", -7)}), "a", "b", "c")
	waits(t, "names by bytes", in([]api.Task{ranked("a-", 0), ranked("a", 0), ranked("a0", 0), ranked("aa", 0), ranked("-", 0), ranked("9", 0), ranked("b", 0)}), "-", "9", "a", "a-", "a0", "aa", "b")
	waits(t, "a node's name", in([]api.Task{ranked("n", 0), ranked("m", 0)}, "m"), "n")
}

// 11.1: as many tasks wait as there may be; each is told whole.
func TestAllWait(t *testing.T) {
	b := booktest.Full()
	b.Binds = nil
	for i := range b.Tasks {
		b.Tasks[i].Rank = i * 7 % 5
	}
	l, why := queue.Waiting(b)
	if len(l) != api.MaxTasks || why != api.OK {
		t.Fatalf("%d wait, error %d", len(l), why)
	}
	for i, k := range l {
		if at := slices.IndexFunc(b.Tasks, func(one api.Task) bool { return one.Name == k.Name }); at < 0 || !booktest.SameTask(k, b.Tasks[at]) {
			t.Errorf("%v is none of its tasks", k)
		}
		if i > 0 && (l[i-1].Rank < k.Rank || l[i-1].Rank == k.Rank && l[i-1].Name >= k.Name) {
			t.Errorf("%v waits ahead of %v", l[i-1], k)
		}
	}
}

// 11.1: Loads, each node whole, in order, with what is used of it; who waits uses nothing.
func TestLoads(t *testing.T) {
	full := booktest.Full()
	for what, one := range map[string]struct {
		b    api.Book
		want []amounts
	}{
		"nothing":     {api.Book{}, nil},
		"tasks alone": {booktest.RightBooks()["tasks alone"], nil},
		"nodes alone": {booktest.RightBooks()["nodes alone"], []amounts{{}, {}, {}}},
		"no binds":    {booktest.RightBooks()["no binds"], []amounts{{}, {}, {}}},
		"some":        {booktest.Some(), []amounts{{}, {1, 1, 1}, {5, 0, 3}}},
		"one of two":  {booktest.With(func(b *api.Book) { b.Binds = b.Binds[1:] }), []amounts{{}, {1, 1, 1}, {2, 0, 2}}},
		"full":        {full, slices.Repeat([]amounts{{2, 4, 6}}, api.MaxNodes)},
		"to the last": {booktest.RightBooks()["to the last"], []amounts{{64, api.MaxAmount, 0}}},
	} {
		l, why := queue.Loads(one.b)
		if len(l) != len(one.want) || len(l) != len(one.b.Nodes) || why != api.OK {
			t.Errorf("%s: %v, error %d", what, l, why)
			continue
		}
		for i := range l {
			if !booktest.SameNode(l[i].Node, one.b.Nodes[i]) || l[i].Used != one.want[i] {
				t.Errorf("%s: %v, not %v, of which %v are used", what, l[i], one.b.Nodes[i], one.want[i])
			}
		}
	}
}

// frees asks Free, and holds what it answers against what is to be told.
func frees(t *testing.T, what string, b api.Book, task string, no api.Errno, want ...string) {
	t.Helper()
	if l, why := queue.Free(b, task); !slices.Equal(l, want) || why != no {
		t.Errorf("%s, %q: %q, error %d; not %q, error %d", what, task, l, why, want, no)
	}
}

// 11.1: Free of a task that is not there, that is on a node, that can be nowhere.
func TestFreeErrors(t *testing.T) {
	for _, name := range []string{"", "0", "aa", "A", "l", "m", "z", "d\x00", "\xff"} {
		frees(t, "some", booktest.Some(), name, api.ErrNone)
		frees(t, "nothing", api.Book{}, name, api.ErrNone)
		frees(t, "full", booktest.Full(), name, api.ErrNone)
	}
	for _, name := range []string{"a", "b", "c", "e"} {
		frees(t, "some", booktest.Some(), name, api.ErrTwice)
	}
	full := booktest.Full()
	for _, k := range full.Tasks {
		frees(t, "full", full, k.Name, api.ErrTwice)
	}
	alone := booktest.RightBooks()["tasks alone"]
	for _, k := range alone.Tasks {
		frees(t, "without a node", alone, k.Name, api.OK)
	}
	frees(t, "some", booktest.Some(), "f", api.OK)
	frees(t, "one name, two things", booktest.RightBooks()["one name, two things"], "x", api.ErrTwice)
}

// 11.1: Free of a task that waits: where it suits, has room, and is borne.
func TestFree(t *testing.T) {
	frees(t, "some", booktest.Some(), "d", api.OK, "l")
	for i, one := range []struct {
		change func(b *api.Book)
		want   []string
	}{
		{func(b *api.Book) { b.Tasks[3] = ranked("d", 0) }, []string{"l", "n"}},
		{func(b *api.Book) { b.Tasks[3] = api.Task{Name: "d", Bears: booktest.Pairs("gpu", "")} }, []string{"l", "m", "n"}},
		{func(b *api.Book) { b.Tasks[3] = ranked("d", 0); b.Nodes[1].Taints = nil; b.Binds = nil }, []string{"l", "m", "n"}},
		{func(b *api.Book) { b.Tasks[3].Needs = amounts{10} }, nil},
		{func(b *api.Book) { b.Tasks[3].Needs = amounts{9, 9, 9} }, []string{"l"}},
		{func(b *api.Book) { b.Tasks[3].Needs = amounts{9, 9, 10} }, nil},
		{func(b *api.Book) { b.Tasks[3].Wants = booktest.Pairs("zone", "a") }, nil},
		{func(b *api.Book) { b.Nodes[0].Taints = booktest.Pairs("gpu", "") }, nil},
		{func(b *api.Book) { b.Tasks[3] = api.Task{Name: "d", Apart: "blue", Bears: booktest.Pairs("gpu", "")} }, []string{"l", "n"}},
		{func(b *api.Book) { b.Tasks[3] = api.Task{Name: "d", Group: "green", Bears: booktest.Pairs("gpu", "")} }, []string{"l", "n"}},
		{func(b *api.Book) { b.Tasks[3] = api.Task{Name: "d", Apart: "red"} }, []string{"l"}},
		{func(b *api.Book) { b.Tasks[3] = api.Task{Name: "d", Apart: "red"}; b.Binds = b.Binds[1:] }, []string{"l", "n"}},
		{func(b *api.Book) { b.Tasks[3] = api.Task{Name: "d", Needs: amounts{1}}; b.Binds = b.Binds[:3] }, []string{"l", "n"}},
		{func(b *api.Book) { b.Tasks[3] = api.Task{Name: "d", Needs: amounts{2, 0, 2}}; b.Binds = b.Binds[:3] }, []string{"l", "n"}},
		{func(b *api.Book) { b.Tasks[3] = api.Task{Name: "d", Needs: amounts{3, 0, 2}}; b.Binds = b.Binds[:3] }, []string{"l"}},
		{func(b *api.Book) { b.Tasks[3] = api.Task{Name: "d", Needs: amounts{2, 0, 3}}; b.Binds = b.Binds[:3] }, []string{"l"}},
	} {
		frees(t, fmt.Sprint(i), booktest.With(one.change), "d", api.OK, one.want...)
	}
}

// 11.1: Free of as many nodes as there may be.
func TestFreeOfMany(t *testing.T) {
	full := booktest.Full()
	full.Binds = full.Binds[:api.MaxTasks-1]
	last := full.Tasks[api.MaxTasks-1].Name
	frees(t, "full but one", full, last, api.OK, full.Nodes[api.MaxNodes-1].Name)

	var all []string
	for _, n := range full.Nodes {
		all = append(all, n.Name)
	}
	half := booktest.Clone(full)
	half.Binds = half.Binds[:api.MaxNodes] // one a node
	frees(t, "half", half, last, api.OK, all...)
	half.Nodes[7].Has[1]-- // to what two need
	frees(t, "half, to the last", half, last, api.OK, all...)
	half.Nodes[7].Has[1]--
	frees(t, "half, but for one", half, last, api.OK, slices.Delete(slices.Clone(all), 7, 8)...)
	half.Binds = nil
	frees(t, "empty", half, last, api.OK, all...)
}

// 11.1: of a book that is not right all answer that, and nothing else, whatever the task is.
func TestWrongBooks(t *testing.T) {
	for what, b := range booktest.WrongBooks() {
		if l, why := queue.Waiting(b); len(l) != 0 || why != api.ErrState {
			t.Errorf("%s: Waiting: %d, error %d", what, len(l), why)
		}
		if l, why := queue.Loads(b); len(l) != 0 || why != api.ErrState {
			t.Errorf("%s: Loads: %d, error %d", what, len(l), why)
		}
		for _, name := range []string{"a", "d", "f", "none", ""} {
			frees(t, what, b, name, api.ErrState)
		}
	}
}
