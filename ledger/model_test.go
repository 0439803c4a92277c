package ledger_test

import (
	"fmt"
	"maps"
	"math/rand"
	"slices"
	"testing"

	"gaffer/api"
	"gaffer/book"
	"gaffer/booktest"
	"gaffer/ledger"
	"gaffer/order"
	"gaffer/ordertest"
)

// model is the state as the chapter's words have it, the clients in no order.
type model struct {
	book    api.Book
	clients map[uint64]api.Client
}

func (m model) ledger() api.Ledger {
	l := api.Ledger{Book: m.book}
	for _, id := range slices.Sorted(maps.Keys(m.clients)) {
		l.Clients = append(l.Clients, m.clients[id])
	}
	return l
}

// apply tells what is told, and whether the book was asked.
func (m *model) apply(c api.Command) (api.Told, bool) {
	last, known := m.clients[c.Client]
	switch {
	case known && c.Seq == last.Seq:
		return last.Told, false
	case known && c.Seq < last.Seq:
		return api.Told{Why: api.ErrStale}, false
	case c.Client != 0 && !known && len(m.clients) >= 8:
		return api.Told{Why: api.ErrFull}, false
	}
	b, told := book.Do(m.book, c.Order)
	m.book = b
	if c.Client != 0 {
		m.clients[c.Client] = api.Client{Id: c.Client, Seq: c.Seq, Told: told}
	}
	return told, true
}

// pool are orders of few names, so that much is done, and much refused.
func pool() []api.Order {
	var list []api.Order
	for i := range 3 {
		n := api.Node{Name: fmt.Sprint("n", i), Has: [api.Kinds]int64{int64(4 + 2*i), 9, 9}}
		if i == 2 {
			n.Labels = booktest.Pairs("zone", "a")
		}
		list = append(list, api.Order{Kind: api.OrderNode, Node: n}, api.Order{Kind: api.OrderNode, Node: n}, ordertest.Named(api.OrderGone, n.Name))
	}
	for i := range 6 {
		k := api.Task{Name: fmt.Sprint("t", i), Needs: [api.Kinds]int64{int64(i), 1, 0}, Rank: i}
		if i == 4 {
			k.Wants, k.Apart = booktest.Pairs("zone", "a"), "red"
		}
		if i == 5 {
			k.Group = "red"
		}
		list = append(list, api.Order{Kind: api.OrderTask, Task: k}, api.Order{Kind: api.OrderTask, Task: k}, done(k.Name), free(k.Name), look(k.Name))
		for n := range 3 {
			list = append(list, bind(k.Name, fmt.Sprint("n", n), uint64(n)), bind(k.Name, fmt.Sprint("n", n), 3))
		}
	}
	return list
}

// runner goes a long way with a ledger and its model.
type runner struct {
	*rand.Rand
	pool    []api.Order
	clients int
	l       api.Ledger
	m       model
	last    map[uint64]string // what each client ordered that was not refused for ErrStale or ErrFull
}

func newRunner(seed, clients int) *runner {
	return &runner{Rand: rand.New(rand.NewSource(int64(seed))), pool: pool(), clients: clients, m: model{clients: map[uint64]api.Client{}}, last: map[uint64]string{}}
}

func (r *runner) command() api.Command {
	c := api.Command{Client: uint64(r.Intn(r.clients)) * 7, Order: r.pool[r.Intn(len(r.pool))]}
	if c.Client != 0 {
		c.Seq = uint64(max(0, int(r.m.clients[c.Client].Seq)+r.Intn(5)-2))
	}
	return c
}

// step is a command, or a Lead; all is to be what the model has, and right.
func (r *runner) step(t *testing.T) {
	t.Helper()
	if r.Intn(100) == 0 {
		term := uint64(r.Intn(4))
		r.l, _ = ledger.Lead(r.l, term)
		r.m.book.Fence = max(r.m.book.Fence, term)
	}
	c := r.command()
	data, why := order.Encode(c)
	if why != api.OK {
		t.Fatalf("%v: error %d", c, why)
	}
	was := clone(r.l)
	told, isDone := r.m.apply(c)
	got, says := ledger.Apply(r.l, data)
	if says != told || !same(got, r.m.ledger()) {
		t.Fatalf("%v in %s: told is %v, %s; not %v, %s", c, brief(was), says, brief(got), told, brief(r.m.ledger()))
	}
	if !same(r.l, was) || !isDone && !same(got, was) {
		t.Fatalf("%v in %s: what does nothing changes something", c, brief(was))
	}
	if why := ledger.Check(got); why != api.OK {
		t.Fatalf("%v in %s: error %d", c, brief(was), why)
	}
	if isDone && c.Client != 0 {
		r.last[c.Client] = data
	}
	r.l = got
}

// again applies each client's last command once more, behind all others.
func (r *runner) again(t *testing.T) {
	t.Helper()
	for id, data := range r.last {
		if got, told := ledger.Apply(r.l, data); told != r.m.clients[id].Told || !same(got, r.l) {
			t.Fatalf("client %d, again, in %s: told is %v, %s", id, brief(r.l), told, brief(got))
		}
	}
}

// 10.2, 10.5, 10.6 and 10.7: whatever is applied, the ledger is what the chapter's words make of it, and right; it is there and back; applied again nothing is done, and the same is told.
func TestManyCommands(t *testing.T) {
	for seed := range 40 {
		r := newRunner(seed, []int{2, 4, 9, 14}[seed%4])
		for range 250 {
			r.step(t)
			r.again(t)
		}
		s, why := ledger.Pack(r.l)
		l, no := ledger.Unpack(s)
		if why != api.OK || no != api.OK || !same(l, r.l) {
			t.Fatalf("there and back: errors %d, %d, %s", why, no, brief(l))
		}
		if len(r.l.Clients) != min(8, r.clients-1) {
			t.Errorf("seed %d: %s", seed, brief(r.l))
		}
	}
}

// 10.5: of nobody it is done again.
func TestNobodyAgain(t *testing.T) {
	var l api.Ledger
	for i, one := range []struct {
		o          api.Order
		first, two api.Errno
	}{
		{task("a"), api.OK, api.ErrTwice},
		{api.Order{Kind: api.OrderNode, Node: api.Node{Name: "n"}}, api.OK, api.ErrTwice},
		{bind("a", "n", 0), api.OK, api.ErrTwice},
		{free("a"), api.OK, api.ErrState},
		{done("a"), api.OK, api.ErrNone},
		{ordertest.Named(api.OrderGone, "n"), api.OK, api.ErrNone},
	} {
		var told, again api.Told
		l, told = ledger.Apply(l, command(0, 0, one.o))
		l, again = ledger.Apply(l, command(0, 0, one.o))
		if told != (api.Told{Why: one.first}) || again != (api.Told{Why: one.two}) || len(l.Clients) != 0 {
			t.Errorf("%d: told is %v, then %v, %s", i, told, again, brief(l))
		}
	}
}

// 10.7: of each ledger at an edge what is applied leaves a right one.
func TestStaysRight(t *testing.T) {
	for what, l := range rights() {
		for _, o := range orders() {
			for _, c := range []api.Command{{}, {Client: 1}, {Client: 2, Seq: 4}, {Client: 80, Seq: 9}, {Client: most, Seq: most}} {
				got, told := ledger.Apply(l, command(c.Client, c.Seq, o))
				if why := ledger.Check(got); why != api.OK {
					t.Errorf("%s, client %d, %.100v: told is %v, error %d", what, c.Client, o, told, why)
				}
			}
		}
	}
}
