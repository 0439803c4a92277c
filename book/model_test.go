package book_test

import (
	"fmt"
	"maps"
	"math/rand"
	"slices"
	"testing"

	"gaffer/api"
	"gaffer/book"
	"gaffer/booktest"
	"gaffer/rig"
)

// model is the cluster as the chapter's words have it, without any order.
type model struct {
	nodes map[string]api.Node
	tasks map[string]api.Task
	on    map[string]string
	fence uint64
}

func (m model) book() api.Book {
	b := api.Book{Nodes: slices.Collect(maps.Values(m.nodes)), Tasks: slices.Collect(maps.Values(m.tasks)), Fence: m.fence}
	for t, n := range m.on {
		b.Binds = append(b.Binds, api.Bind{Task: t, Node: n})
	}
	booktest.Sort(b)
	return b
}

func (m model) used(node string) amounts {
	var all amounts
	for t, n := range m.on {
		for kind, amount := range m.tasks[t].Needs {
			if n == node {
				all[kind] += amount
			}
		}
	}
	return all
}

func (m model) can(task, node string) api.Errno {
	t, isTask := m.tasks[task]
	n, isNode := m.nodes[node]
	if !isTask || !isNode {
		return api.ErrNone
	}
	if m.on[task] != "" {
		return api.ErrTwice
	}
	fits := rig.Suits(t, n)
	for kind, amount := range m.used(node) {
		fits = fits && amount+t.Needs[kind] <= n.Has[kind]
	}
	for other, there := range m.on {
		fits = fits && (there != node || rig.Bear(m.tasks[other], t))
	}
	if !fits {
		return api.ErrFit
	}
	return api.OK
}

// do does an order that is right.
func (m model) do(o api.Order) api.Told {
	why := api.OK
	_, isNode := m.nodes[o.Name]
	_, isTask := m.tasks[o.Name]
	switch o.Kind {
	case api.OrderNode:
		if why = rig.CheckNode(o.Node); why != api.OK {
			break
		}
		if _, there := m.nodes[o.Node.Name]; there {
			why = api.ErrTwice
		} else if len(m.nodes) >= 16 {
			why = api.ErrFull
		} else {
			m.nodes[o.Node.Name] = o.Node
		}
	case api.OrderTask:
		if why = rig.CheckTask(o.Task); why != api.OK {
			break
		}
		if _, there := m.tasks[o.Task.Name]; there {
			why = api.ErrTwice
		} else if len(m.tasks) >= 32 {
			why = api.ErrFull
		} else {
			m.tasks[o.Task.Name] = o.Task
		}
	case api.OrderGone:
		if !isNode {
			why = api.ErrNone
		} else if slices.Contains(slices.Collect(maps.Values(m.on)), o.Name) {
			why = api.ErrBusy
		} else {
			delete(m.nodes, o.Name)
		}
	case api.OrderBind:
		if why = m.can(o.Name, o.On); o.Fence < m.fence {
			why = api.ErrFence
		} else if why == api.OK {
			m.on[o.Name] = o.On
		}
	default:
		return m.doTask(o, isTask)
	}
	return api.Told{Why: why}
}

func (m model) doTask(o api.Order, isTask bool) api.Told {
	on := m.on[o.Name]
	switch {
	case !isTask:
		return api.Told{Why: api.ErrNone}
	case o.Kind == api.OrderLook:
		return api.Told{Text: on}
	case o.Kind == api.OrderFree && on == "":
		return api.Told{Why: api.ErrState}
	case o.Kind == api.OrderDone:
		delete(m.tasks, o.Name)
	}
	delete(m.on, o.Name)
	return api.Told{}
}

// drawer draws orders of few names and few amounts, so that much of it is done, and much refused.
type drawer struct {
	*rand.Rand
	nodes, tasks int
}

func (d drawer) node() string { return fmt.Sprint("n", d.Intn(d.nodes)) }
func (d drawer) task() string { return fmt.Sprint("t", d.Intn(d.tasks)) }

func (d drawer) amounts(most int64) amounts {
	return amounts{d.Int63n(most), d.Int63n(most), d.Int63n(most)}
}

// pairs are mostly none.
func (d drawer) pairs() []api.Pair {
	return [][]api.Pair{nil, nil, nil, {}, booktest.Pairs("zone", "a"), booktest.Pairs("disk", "x", "zone", "a")}[d.Intn(6)]
}

func (d drawer) order() api.Order {
	groups := []string{"", "", "red", "blue"}
	switch d.Intn(16) {
	case 0, 1:
		return node(api.Node{Name: d.node(), Has: d.amounts(30), Labels: d.pairs(), Taints: d.pairs()})
	case 2:
		return gone(d.node())
	case 3, 4, 5:
		return task(api.Task{Name: d.task(), Needs: d.amounts(8), Wants: d.pairs(), Bears: d.pairs(), Group: groups[d.Intn(4)], Apart: groups[d.Intn(4)], Rank: d.Intn(9)})
	case 6:
		return done(d.task())
	case 7:
		return free(d.task())
	case 8:
		return look(d.task())
	case 9:
		return []api.Order{{}, node(api.Node{Name: "N"}), task(api.Task{Name: "a", Rank: 1001}), gone(""), look("N"), {Kind: api.OrderFree, Name: d.task(), On: d.node()}}[d.Intn(6)]
	}
	return bind(d.task(), d.node(), uint64(d.Intn(4)+d.Intn(4)))
}

// step does one order, or a Lead, with both; the book is to be what the model has, and right.
func (d drawer) step(t *testing.T, b api.Book, m *model) api.Book {
	t.Helper()
	if d.Intn(200) == 0 {
		term := uint64(d.Intn(6))
		m.fence = max(m.fence, term)
		c, why := book.Lead(b, term)
		if why != api.OK || !booktest.Same(c, m.book()) {
			t.Fatalf("Lead(%d) of %s: %s, error %d", term, booktest.Brief(b), booktest.Brief(c), why)
		}
		return c
	}
	task, node := d.task(), d.node()
	if why := book.Can(b, task, node); why != m.can(task, node) {
		t.Fatalf("Can(%s, %s) in %s: error %d, not %d", task, node, booktest.Brief(b), why, m.can(task, node))
	}
	if used, why := book.Used(b, node); used != m.used(node) || (why == api.OK) != slices.ContainsFunc(b.Nodes, func(n api.Node) bool { return n.Name == node }) {
		t.Fatalf("Used(%s) in %s: %v, error %d, not %v", node, booktest.Brief(b), used, why, m.used(node))
	}
	o := d.order()
	want := api.Told{Why: api.ErrForm}
	if book.CheckOrder(o) == api.OK {
		want = m.do(o)
	}
	c, told := book.Do(b, o)
	if told != want || !booktest.Same(c, m.book()) {
		t.Fatalf("%v in %s: told is %v, %s; not %v, %s", o, booktest.Brief(b), told, booktest.Brief(c), want, booktest.Brief(m.book()))
	}
	if why := book.Check(c); why != api.OK {
		t.Fatalf("%v in %s: error %d", o, booktest.Brief(b), why)
	}
	if (told.Why != api.OK || o.Kind == api.OrderLook) && !booktest.Same(b, c) {
		t.Fatalf("%v in %s: refused, or a look, it changes something", o, booktest.Brief(b))
	}
	return c
}

// 8.2, 8.5 and 8.7: whatever is ordered, the book is what the chapter's words make of it, and right; what is refused changes nothing.
func TestManyOrders(t *testing.T) {
	for seed := range 60 {
		d := drawer{rand.New(rand.NewSource(int64(seed))), 3 + seed%3*8, 8 + seed%4*12}
		m := model{nodes: map[string]api.Node{}, tasks: map[string]api.Task{}, on: map[string]string{}}
		var b api.Book
		for range 400 {
			b = d.step(t, b, &m)
		}
	}
}

// 8.6: behind Lead of a term no bind of a lower Fence does anything, whatever is ordered between.
func TestFenced(t *testing.T) {
	for seed := range 60 {
		d := drawer{rand.New(rand.NewSource(int64(1000 + seed))), 4, 12}
		var b api.Book
		var term uint64
		done := 0
		for range 600 {
			if d.Intn(60) == 0 {
				term = max(term, uint64(d.Intn(6)))
				b, _ = book.Lead(b, uint64(d.Intn(int(term)+1))) // of a term that is no greater, most often
				b, _ = book.Lead(b, term)
			}
			o := d.order()
			c, told := book.Do(b, o)
			if o.Kind == api.OrderBind && o.Fence < term && (told != (api.Told{Why: api.ErrFence}) || !booktest.Same(b, c)) {
				t.Fatalf("behind term %d, %v: told is %v", term, o, told)
			}
			if o.Kind == api.OrderBind && told.Why == api.OK {
				done++
			}
			b = c
		}
		if done == 0 {
			t.Errorf("seed %d: no bind was done at all", seed)
		}
	}
}

// 8.5 and 8.7: of each book at an edge what an order makes is right; what is refused leaves it as it was.
func TestStaysRight(t *testing.T) {
	for what, b := range rights() {
		for _, o := range many() {
			c, told := book.Do(b, o)
			if why := book.Check(c); why != api.OK {
				t.Errorf("%s, %.100v: error %d", what, o, why)
			}
			if told.Why != api.OK && !booktest.Same(b, c) {
				t.Errorf("%s, %.100v: refused, it changes something", what, o)
			}
		}
		if c, _ := book.Lead(b, 7); book.Check(c) != api.OK {
			t.Errorf("%s: Lead makes it another one", what)
		}
	}
}
