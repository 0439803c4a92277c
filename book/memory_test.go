package book_test

import (
	"testing"

	"gaffer/api"
	"gaffer/book"
	"gaffer/booktest"
)

// calls are all that answer a book.
func calls() map[string]booktest.Call {
	lead := func(term uint64) booktest.Call {
		return func(b api.Book, o api.Order) (api.Book, api.Told) {
			c, why := book.Lead(b, term)
			return c, api.Told{Why: why}
		}
	}
	return map[string]booktest.Call{"Do": book.Do, "Lead": lead(9), "Lead of a term that is not greater": lead(5)}
}

// many are orders that are done, that are refused, and that are not right.
func many() []api.Order {
	list := append(orders(), gone("m"), gone("none"), done("f"), done("none"), bind("d", "l", 4), bind("a", "n", 5), bind("f", "l", 5), free("d"), look("none"), api.Order{})
	n, k := booktest.SomeNode(), booktest.SomeTask()
	n.Taints, k.Bears = n.Labels, k.Wants // one memory
	list = append(list, node(n), task(k), node(some().Nodes[1]), task(some().Tasks[1]))
	return append(list, api.Order{Kind: api.OrderNode, Node: n, Task: k}, api.Order{Kind: api.OrderTask, Task: api.Task{Name: "T", Wants: k.Wants}})
}

// 8.4: an answer is new memory, done or refused, and what is handed in is neither changed nor kept.
func TestNewMemory(t *testing.T) {
	for what, call := range calls() {
		for _, o := range many() {
			for _, b := range []api.Book{some(), booktest.Full(), {}} {
				if s := booktest.Shares(b, o, call); s != "" {
					t.Errorf("%s, %.100v: %s", what, o, s)
				}
			}
		}
	}
}

// 8.4: no two lists of an answer share memory, even if those that were handed in do.
func TestListsApart(t *testing.T) {
	one := booktest.Pairs("a", "", "b", "", "c", "", "d", "")
	b := with(func(b *api.Book) {
		b.Binds = nil
		for i := range b.Nodes {
			b.Nodes[i].Labels, b.Nodes[i].Taints = one[:2], one
		}
		for i := range b.Tasks {
			b.Tasks[i].Wants, b.Tasks[i].Bears = one[1:3], one
		}
	})
	whole := booktest.Clone(b)
	apart := func(what string, c api.Book) {
		t.Helper()
		if !booktest.Apart(c) {
			t.Errorf("%s: two lists share memory", what)
		}
		if !booktest.Same(b, whole) {
			t.Fatalf("%s: the answer shares memory with what was handed in", what)
		}
	}
	n, k := api.Node{Name: "z", Labels: one[:1], Taints: one}, api.Task{Name: "z", Wants: one[2:3], Bears: one}
	for _, o := range append(orders(), node(n), task(k), api.Order{}) {
		c, _ := book.Do(b, o)
		apart("Do", c)
	}
	c, _ := book.Lead(b, 9)
	apart("Lead", c)
}

// P3: what Check, CheckOrder, Used and Can say changes nothing, and is the same again.
func TestAskedAgain(t *testing.T) {
	for what, b := range rights() {
		given := booktest.Clone(b)
		type answers struct {
			check, order, can, none api.Errno
			used                    amounts
		}
		ask := func() answers {
			used, why := book.Used(given, "n")
			return answers{book.Check(given), book.CheckOrder(node(booktest.SomeNode())), book.Can(given, "d", "l"), why, used}
		}
		if ask() != ask() || !booktest.Same(given, b) {
			t.Errorf("%s: asked again it is another one, or it is changed", what)
		}
	}
}
