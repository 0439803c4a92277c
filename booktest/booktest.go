// Package booktest is for tests alone: nodes, tasks and books to ask a layer with that has to do with the cluster, and what its answers are held against.
package booktest

import (
	"cmp"
	"slices"
	"strconv"
	"strings"

	"gaffer/api"
)

const room = "room" // the name of what stands behind a list's end

// Call is one of a layer's, with all that it is given but the book and the order.
type Call func(b api.Book, o api.Order) (api.Book, api.Told)

// Pairs is of pairs: a Key, its Value, the next Key, and so on.
func Pairs(texts ...string) []api.Pair {
	var l []api.Pair
	for i := 0; i < len(texts); i += 2 {
		l = append(l, api.Pair{Key: texts[i], Value: texts[i+1]})
	}
	return l
}

// SomeNode has something in each field; so has SomeTask, which may be there.
func SomeNode() api.Node {
	return api.Node{Name: "n-1", Has: [api.Kinds]int64{4, 5, 6}, Labels: Pairs("disk", "x", "zone", "a"), Taints: Pairs("gpu", "")}
}

func SomeTask() api.Task {
	return api.Task{Name: "t-1", Needs: [api.Kinds]int64{1, 2, 3}, Wants: Pairs("disk", "x"), Bears: Pairs("gpu", "", "old", "yes"), Group: "g", Apart: "h", Rank: -7}
}

// WrongNode is one that is not right, and which error says so; WrongTask likewise.
type WrongNode struct {
	Node api.Node
	Why  api.Errno
}

type WrongTask struct {
	Task api.Task
	Why  api.Errno
}

// WrongNodes are SomeNode with one fault each.
func WrongNodes() []WrongNode {
	var list []WrongNode
	with := func(why api.Errno, change func(n *api.Node)) {
		n := SomeNode()
		change(&n)
		list = append(list, WrongNode{n, why})
	}
	for _, s := range []string{"", "N", "n_1", strings.Repeat("n", api.MaxName+1)} {
		with(api.ErrName, func(n *api.Node) { n.Name = s })
	}
	for kind := range api.Kinds {
		with(api.ErrRange, func(n *api.Node) { n.Has[kind] = -1 })
		with(api.ErrRange, func(n *api.Node) { n.Has[kind] = api.MaxAmount + 1 })
	}
	for _, l := range wrongPairs() {
		with(api.ErrForm, func(n *api.Node) { n.Labels = l })
		with(api.ErrForm, func(n *api.Node) { n.Taints = l })
	}
	return list
}

// WrongTasks are SomeTask with one fault each.
func WrongTasks() []WrongTask {
	var list []WrongTask
	with := func(why api.Errno, change func(t *api.Task)) {
		t := SomeTask()
		change(&t)
		list = append(list, WrongTask{t, why})
	}
	for _, s := range []string{"", "T", "t_1", strings.Repeat("t", api.MaxName+1)} {
		with(api.ErrName, func(t *api.Task) { t.Name = s })
	}
	for kind := range api.Kinds {
		with(api.ErrRange, func(t *api.Task) { t.Needs[kind] = -1 })
		with(api.ErrRange, func(t *api.Task) { t.Needs[kind] = api.MaxAmount + 1 })
	}
	with(api.ErrRange, func(t *api.Task) { t.Rank = 1001 })
	with(api.ErrRange, func(t *api.Task) { t.Rank = -1001 })
	for _, l := range wrongPairs() {
		with(api.ErrForm, func(t *api.Task) { t.Wants = l })
		with(api.ErrForm, func(t *api.Task) { t.Bears = l })
	}
	with(api.ErrForm, func(t *api.Task) { t.Group = "G" })
	with(api.ErrForm, func(t *api.Task) { t.Apart = "g h" })
	return list
}

func wrongPairs() [][]api.Pair {
	return [][]api.Pair{
		Pairs("a", "", "b", "", "c", "", "d", "", "e", ""),
		Pairs("a", "b", "a", "b"),
		Pairs("b", "", "a", ""),
		Pairs("", "a"),
		Pairs("a", "B"),
	}
}

// Full is a book with as many nodes and tasks as there may be, all on nodes: two a node. Their names leave room between.
func Full() api.Book {
	b := api.Book{Fence: 5}
	for i := range api.MaxNodes {
		n := SomeNode()
		n.Name = "n" + strconv.Itoa(100+2*i)
		b.Nodes = append(b.Nodes, n)
	}
	for i := range api.MaxTasks {
		t := SomeTask()
		t.Name = "t" + strconv.Itoa(100+2*i)
		b.Tasks = append(b.Tasks, t)
		b.Binds = append(b.Binds, api.Bind{Task: t.Name, Node: b.Nodes[i%api.MaxNodes].Name})
	}
	return b
}

// Sort puts the lists of b in order, in place.
func Sort(b api.Book) {
	slices.SortFunc(b.Nodes, func(x, y api.Node) int { return cmp.Compare(x.Name, y.Name) })
	slices.SortFunc(b.Tasks, func(x, y api.Task) int { return cmp.Compare(x.Name, y.Name) })
	slices.SortFunc(b.Binds, func(x, y api.Bind) int { return cmp.Compare(x.Task, y.Task) })
}

// Same takes nil and empty lists for alike; so do SameNode and SameTask.
func Same(a, b api.Book) bool {
	return a.Fence == b.Fence && slices.Equal(a.Binds, b.Binds) && slices.EqualFunc(a.Nodes, b.Nodes, SameNode) && slices.EqualFunc(a.Tasks, b.Tasks, SameTask)
}

func SameNode(a, b api.Node) bool {
	return a.Name == b.Name && a.Has == b.Has && slices.Equal(a.Labels, b.Labels) && slices.Equal(a.Taints, b.Taints)
}

func SameTask(a, b api.Task) bool {
	return a.Name == b.Name && a.Needs == b.Needs && slices.Equal(a.Wants, b.Wants) && slices.Equal(a.Bears, b.Bears) && a.Group == b.Group && a.Apart == b.Apart && a.Rank == b.Rank
}

// Clone has memory of its own.
func Clone(b api.Book) api.Book {
	return each(b, slices.Clone[[]api.Node], slices.Clone[[]api.Task], slices.Clone[[]api.Bind], slices.Clone[[]api.Pair])
}

// Brief is few words on b, however much is there.
func Brief(b api.Book) string {
	s := "fence " + strconv.FormatUint(b.Fence, 10) + ", " + strconv.Itoa(len(b.Nodes)) + " nodes"
	for _, n := range b.Nodes[:min(4, len(b.Nodes))] {
		s += " " + strconv.Quote(n.Name)
	}
	s += ", " + strconv.Itoa(len(b.Tasks)) + " tasks"
	for _, t := range b.Tasks[:min(4, len(b.Tasks))] {
		s += " " + strconv.Quote(t.Name)
	}
	s += ", " + strconv.Itoa(len(b.Binds)) + " binds"
	for _, on := range b.Binds[:min(4, len(b.Binds))] {
		s += " " + strconv.Quote(on.Task) + ":" + strconv.Quote(on.Node)
	}
	return s
}

// Shares tells what memory a call's answer shares, or what it changes, or nothing: with an earlier answer, with the book and the order that were handed in, with the room behind their lists, or of one list with another.
func Shares(b api.Book, o api.Order, call Call) string {
	given, asked := roomy(b), roomy(ofOrder(o))
	before, wanted := whole(given), whole(asked)
	first, told := call(given, toOrder(o, asked))
	answer := Clone(first)
	again, same := call(given, toOrder(o, asked))
	if !Same(again, first) || told != same {
		return "asked again it is another one"
	}
	spoil(again)
	switch {
	case !Same(whole(given), before):
		return "the book that was handed in is changed, or shared"
	case !Same(whole(asked), wanted):
		return "the order that was handed in is changed, or shared"
	case !Same(first, answer):
		return "two answers share memory"
	}
	spoil(given)
	spoil(asked)
	if !Same(first, answer) {
		return "the answer shares memory with what was handed in"
	}
	if !Apart(first) {
		return "two lists of the answer share memory"
	}
	return ""
}

// Lasts tells whether an answer stays as it was when a later one, and the room behind its end, is written over.
func Lasts[T any](ask func() []T, same func(a, b T) bool) bool {
	first := ask()
	kept, again := slices.Clone(first), ask()
	if !slices.EqualFunc(kept, again, same) {
		return false
	}
	var none T
	fill(again, none)
	return slices.EqualFunc(kept, first, same)
}

// ofOrder is a book of what the order has with lists; toOrder the order with that.
func ofOrder(o api.Order) api.Book {
	return api.Book{Nodes: []api.Node{o.Node}, Tasks: []api.Task{o.Task}}
}

func toOrder(o api.Order, b api.Book) api.Order {
	o.Node, o.Task = b.Nodes[0], b.Tasks[0]
	return o
}

// each is b with each of its lists as the functions make it of what it was.
func each(b api.Book, nodes func([]api.Node) []api.Node, tasks func([]api.Task) []api.Task, binds func([]api.Bind) []api.Bind, pairs func([]api.Pair) []api.Pair) api.Book {
	b.Nodes, b.Tasks, b.Binds = nodes(slices.Clone(b.Nodes)), tasks(slices.Clone(b.Tasks)), binds(slices.Clone(b.Binds))
	for i := range b.Nodes {
		n := &b.Nodes[i]
		n.Labels, n.Taints = pairs(n.Labels), pairs(n.Taints)
	}
	for i := range b.Tasks {
		t := &b.Tasks[i]
		t.Wants, t.Bears = pairs(t.Wants), pairs(t.Bears)
	}
	return b
}

// roomy is a clone of b with room behind each list's end, in which something stands.
func roomy(b api.Book) api.Book {
	return each(b, behind(api.Node{Name: room}), behind(api.Task{Name: room}), behind(api.Bind{Task: room}), behind(api.Pair{Key: room}))
}

func behind[T any](one T) func([]T) []T {
	return func(l []T) []T { return append(slices.Clone(l), one)[:len(l)] }
}

// whole is a clone of what roomy made, with what stands behind each list's end.
func whole(b api.Book) api.Book {
	b.Nodes, b.Tasks, b.Binds = further(b.Nodes), further(b.Tasks), further(b.Binds)
	return each(b, slices.Clone[[]api.Node], slices.Clone[[]api.Task], slices.Clone[[]api.Bind], further[api.Pair])
}

// further takes a list that has no room for one without anything behind its end, too.
func further[T any](l []T) []T {
	return slices.Clone(l[:min(len(l)+1, cap(l))])
}

// spoil writes all over the lists of b, and the room behind them.
func spoil(b api.Book) {
	for _, l := range pairsOf(b) {
		fill(l, api.Pair{Key: "spoilt"})
	}
	fill(b.Nodes, api.Node{Name: "spoilt"})
	fill(b.Tasks, api.Task{Name: "spoilt"})
	fill(b.Binds, api.Bind{Task: "spoilt"})
}

func fill[T any](l []T, with T) {
	l = l[:cap(l)]
	for i := range l {
		l[i] = with
	}
}

func pairsOf(b api.Book) [][]api.Pair {
	var all [][]api.Pair
	for _, n := range b.Nodes {
		all = append(all, n.Labels, n.Taints)
	}
	for _, t := range b.Tasks {
		all = append(all, t.Wants, t.Bears)
	}
	return all
}

// Apart tells whether no two lists of b share memory, or the room behind them. It writes all over one list of pairs behind the other, and none of that may be seen in another one.
func Apart(b api.Book) bool {
	all, want := pairsOf(b), pairsOf(Clone(b))
	for i, l := range all {
		if !slices.Equal(l, want[i]) {
			return false
		}
		fill(l, api.Pair{Key: "spoilt", Value: strconv.Itoa(i)})
	}
	for i, l := range all {
		if len(l) > 0 && l[0].Value != strconv.Itoa(i) {
			return false
		}
	}
	return true
}
