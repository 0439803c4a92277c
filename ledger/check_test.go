package ledger_test

import (
	"testing"

	"gaffer/api"
	"gaffer/booktest"
	"gaffer/ledger"
	"gaffer/ordertest"
)

// 10.1: Check.
func TestCheck(t *testing.T) {
	for what, l := range rights() {
		if why := ledger.Check(l); why != api.OK {
			t.Errorf("%s: error %d", what, why)
		}
	}
	for what, l := range wrongs() {
		if why := ledger.Check(l); why != api.ErrState {
			t.Errorf("%s: error %d", what, why)
		}
	}
}

// 10.1: the others answer first that the ledger is not right, all else being zero, whatever else is wrong.
func TestWrongLedger(t *testing.T) {
	list := []string{"", "?", command(0, 0, look("a")), command(2, 3, look("a")), command(2, 1, look("a")), command(7, 1, task("new")), command(0, 1, look("a"))}
	for what, l := range wrongs() {
		given := clone(l)
		for _, data := range list {
			if got, told := ledger.Apply(given, data); !same(got, api.Ledger{}) || told != (api.Told{Why: api.ErrState}) {
				t.Errorf("%s, Apply of %x: %s, told is %v", what, data, brief(got), told)
			}
		}
		for _, term := range []uint64{0, 9, most} {
			if got, why := ledger.Lead(given, term); !same(got, api.Ledger{}) || why != api.ErrState {
				t.Errorf("%s, Lead: %s, error %d", what, brief(got), why)
			}
		}
		if s, why := ledger.Pack(given); s != "" || why != api.ErrState {
			t.Errorf("%s, Pack: %d bytes, error %d", what, len(s), why)
		}
		if !same(given, l) {
			t.Errorf("%s: what was handed in is changed", what)
		}
	}
}

// 10.1: Lead, of terms that are greater, the same, or less; who is remembered stays so.
func TestLead(t *testing.T) {
	terms := []uint64{0, 1, 4, 5, 6, api.MaxNumber, most - 1, most}
	for what, l := range rights() {
		for _, fence := range terms {
			l.Book.Fence = fence
			for _, term := range terms {
				given, want := clone(l), clone(l)
				want.Book.Fence = max(fence, term)
				if got, why := ledger.Lead(given, term); !same(got, want) || why != api.OK {
					t.Errorf("%s, fence %d, term %d: %s, error %d", what, fence, term, brief(got), why)
				}
				if !same(given, l) {
					t.Errorf("%s, fence %d, term %d: what was handed in is changed", what, fence, term)
				}
			}
		}
	}
}

// 10.1 and 10.2: behind Lead a bind of a lower Fence is refused, and that is remembered.
func TestLeadFences(t *testing.T) {
	l, why := ledger.Lead(some(), 9)
	if why != api.OK {
		t.Fatal(why)
	}
	refuses(t, "below", l, command(0, 0, bind("d", "l", 8)), api.Told{Why: api.ErrFence})
	fenced := clone(l)
	fenced.Clients[0].Seq, fenced.Clients[0].Told = 4, api.Told{Why: api.ErrFence}
	applies(t, "of a client", l, command(2, 4, bind("d", "l", 8)), fenced, api.Told{Why: api.ErrFence})
	bound, told := ledger.Apply(l, command(0, 0, bind("d", "l", 9)))
	if told != (api.Told{}) || len(bound.Book.Binds) != 5 {
		t.Errorf("at the term: told is %v, %s", told, brief(bound))
	}
}

// 10.4: an answer is new memory, done or refused, and what is handed in is neither changed nor kept: of the book.
func TestNewBook(t *testing.T) {
	clients := some().Clients
	full := full().Clients
	apply := func(clients []api.Client, client, seq uint64) booktest.Call {
		return func(b api.Book, o api.Order) (api.Book, api.Told) {
			l, told := ledger.Apply(api.Ledger{Book: b, Clients: clients}, command(client, seq, o))
			return l.Book, told
		}
	}
	calls := map[string]booktest.Call{
		"of nobody":       apply(clients, 0, 0),
		"of a new client": apply(clients, 3, 1),
		"of a known one":  apply(clients, 2, 4),
		"again":           apply(clients, 2, 3),
		"of long ago":     apply(clients, 2, 2),
		"no room":         apply(full, 3, 1),
		"not right":       apply(clients, 0, 1),
		"Lead": func(b api.Book, o api.Order) (api.Book, api.Told) {
			l, why := ledger.Lead(api.Ledger{Book: b, Clients: clients}, 9)
			return l.Book, api.Told{Why: why}
		},
		"Lead of a term that is not greater": func(b api.Book, o api.Order) (api.Book, api.Told) {
			l, why := ledger.Lead(api.Ledger{Book: b, Clients: clients}, 0)
			return l.Book, api.Told{Why: why}
		},
		"Unpack of Pack": func(b api.Book, o api.Order) (api.Book, api.Told) {
			s, _ := ledger.Pack(api.Ledger{Book: b, Clients: clients})
			l, why := ledger.Unpack(s)
			return l.Book, api.Told{Why: why}
		},
	}
	orders := append(booktest.Orders(), bind("d", "l", 4), free("d"), look("none"), task("a"), done("f"), api.Order{})
	for what, call := range calls {
		for _, b := range []api.Book{booktest.Some(), booktest.Full(), {}} {
			for _, o := range orders {
				if shares := booktest.Shares(b, o, call); shares != "" {
					t.Errorf("%s, %.100v: %s", what, o, shares)
				}
			}
		}
	}
}

// 10.4, of the clients: room behind their end, too.
func TestNewClients(t *testing.T) {
	spoil := func(l []api.Client) {
		l = l[:cap(l)]
		for i := range l {
			l[i] = api.Client{Id: 99, Told: api.Told{Text: "spoilt"}}
		}
	}
	apply := func(client, seq uint64, o api.Order) func(l api.Ledger) api.Ledger {
		return func(l api.Ledger) api.Ledger {
			l, _ = ledger.Apply(l, command(client, seq, o))
			return l
		}
	}
	lead := func(term uint64) func(l api.Ledger) api.Ledger {
		return func(l api.Ledger) api.Ledger {
			l, _ = ledger.Lead(l, term)
			return l
		}
	}
	for i, call := range []func(l api.Ledger) api.Ledger{
		apply(0, 0, look("a")), apply(0, 1, look("a")), apply(1, 1, look("a")), apply(3, 0, done("a")), apply(most, 1, done("none")),
		apply(2, 3, look("a")), apply(2, 2, look("a")), apply(2, 4, look("a")), apply(1<<40, most, done("a")), apply(20, 1, look("a")), apply(20, 9, done("a")),
		lead(0), lead(9), apply(1, 1, api.Order{}),
		func(l api.Ledger) api.Ledger {
			s, _ := ledger.Pack(l)
			l, _ = ledger.Unpack(s)
			return l
		},
		func(l api.Ledger) api.Ledger {
			ledger.Check(l)
			return api.Ledger{}
		},
	} {
		for _, l := range []api.Ledger{some(), full(), {}} {
			room := append(append(make([]api.Client, 0, 12), l.Clients...), api.Client{Id: 77})
			given := api.Ledger{Book: l.Book, Clients: room[:len(l.Clients)]}
			first := call(given)
			told := clone(first)
			again := call(given)
			if !same(again, first) {
				t.Errorf("%d: asked again it is another one", i)
			}
			spoil(again.Clients)
			if !same(given, l) || room[len(l.Clients)].Id != 77 {
				t.Errorf("%d: what was handed in is changed, or shared", i)
			}
			if !same(first, told) {
				t.Errorf("%d: two answers share memory", i)
			}
			if spoil(room); !same(first, told) {
				t.Errorf("%d: the answer shares memory with what was handed in", i)
			}
		}
	}
}

// 10.4: no two lists of an answer share memory, even if those that were handed in do.
func TestListsApart(t *testing.T) {
	one := booktest.Pairs("a", "", "b", "", "c", "", "d", "")
	l := with(func(l *api.Ledger) {
		l.Book.Binds = nil
		for i := range l.Book.Nodes {
			l.Book.Nodes[i].Labels, l.Book.Nodes[i].Taints = one[:2], one
		}
		for i := range l.Book.Tasks {
			l.Book.Tasks[i].Wants, l.Book.Tasks[i].Bears = one[1:3], one
		}
	})
	whole := clone(l)
	s, why := ledger.Pack(l)
	if why != api.OK {
		t.Fatal(why)
	}
	unpacked, _ := ledger.Unpack(s)
	led, _ := ledger.Lead(l, 9)
	answers := []api.Ledger{unpacked, led}
	n, k := api.Node{Name: "z", Labels: one[:1], Taints: one}, api.Task{Name: "z", Wants: one[2:3], Bears: one}
	for _, data := range []string{command(0, 0, api.Order{Kind: api.OrderNode, Node: n}), command(2, 4, api.Order{Kind: api.OrderTask, Task: k}), command(2, 3, look("a")), command(2, 1, look("a")), "?"} {
		applied, _ := ledger.Apply(l, data)
		answers = append(answers, applied)
	}
	for i, answer := range answers {
		if len(answer.Book.Tasks) == 0 || !booktest.Apart(answer.Book) {
			t.Errorf("%d: two lists share memory", i)
		}
		if !same(l, whole) {
			t.Fatalf("%d: the answer shares memory with what was handed in", i)
		}
	}
}

// 10.4 and P3: what is decoded of a command is the ledger's own; asked again, behind others, all is the same.
func TestAskedAgain(t *testing.T) {
	n := booktest.SomeNode()
	data := ordertest.CommandBytes(api.Command{Client: 7, Seq: 1, Order: api.Order{Kind: api.OrderNode, Node: n}})
	first, _ := ledger.Apply(some(), data)
	told := clone(first)
	for _, at := range first.Book.Nodes {
		for i := range at.Labels {
			at.Labels[i].Key = "spoilt"
		}
	}
	if again, says := ledger.Apply(some(), data); !same(again, told) || says != (api.Told{}) {
		t.Errorf("told is %v: %s", says, brief(again))
	}
}
