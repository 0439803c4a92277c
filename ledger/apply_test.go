package ledger_test

import (
	"slices"
	"testing"

	"gaffer/api"
	"gaffer/book"
	"gaffer/booktest"
	"gaffer/ledger"
	"gaffer/ordertest"
)

// remembered is l, and what a client ordered last there, and was told.
func remembered(l api.Ledger, id, seq uint64, told api.Told) api.Ledger {
	l = clone(l)
	l.Clients = slices.DeleteFunc(l.Clients, func(c api.Client) bool { return c.Id == id })
	at := 0
	for at < len(l.Clients) && l.Clients[at].Id < id {
		at++
	}
	l.Clients = slices.Insert(l.Clients, at, api.Client{Id: id, Seq: seq, Told: told})
	return l
}

// orders are of each kind, some done in some's book, some refused.
func orders() []api.Order {
	list := booktest.Orders()
	for _, name := range []string{"a", "d", "f", "l", "n", "none"} {
		for _, kind := range ordertest.NamedKinds() {
			list = append(list, ordertest.Named(kind, name))
		}
		list = append(list, task(name), api.Order{Kind: api.OrderNode, Node: api.Node{Name: name}}, bind(name, "l", 5), bind(name, "l", 4), bind(name, "m", 6))
	}
	return list
}

// 10.2: the book is what book.Do makes of the order, and that is told: of nobody, of a client that is remembered, and of a new one.
func TestDo(t *testing.T) {
	told := map[api.Errno]int{}
	for _, o := range orders() {
		for _, l := range []api.Ledger{some(), {}, with(func(l *api.Ledger) { l.Clients = nil })} {
			b, says := book.Do(l.Book, o)
			told[says.Why]++
			want := api.Ledger{Book: b, Clients: l.Clients}
			applies(t, "of nobody", l, command(0, 0, o), want, says)
			for _, id := range []uint64{1, 3, 6, 1<<40 + 1, most} {
				for _, seq := range []uint64{0, 1, most} {
					applies(t, "of a new client", l, command(id, seq, o), remembered(want, id, seq, says), says)
				}
			}
		}
		b, says := book.Do(some().Book, o)
		want := api.Ledger{Book: b, Clients: some().Clients}
		for _, known := range []struct{ id, seq uint64 }{{2, 4}, {2, 1 << 32}, {2, most}, {5, 1}, {1 << 40, 1<<50 + 1}, {1 << 40, most}} {
			applies(t, "of a known one", some(), command(known.id, known.seq, o), remembered(want, known.id, known.seq, says), says)
		}
	}
	for _, why := range []api.Errno{api.OK, api.ErrNone, api.ErrTwice, api.ErrBusy, api.ErrFit, api.ErrFence, api.ErrState} {
		if told[why] == 0 {
			t.Errorf("nothing was told error %d", why)
		}
	}
}

// 10.2: the last one once more: what it was told is told, and nothing is done, whatever it orders.
func TestAgain(t *testing.T) {
	for _, o := range orders() {
		for _, c := range append(some().Clients, full().Clients...) {
			l := some()
			if !slices.Contains(l.Clients, c) {
				l = full()
			}
			refuses(t, "again", l, command(c.Id, c.Seq, o), c.Told)
		}
		for _, told := range ordertest.Tolds() {
			refuses(t, "told anything", api.Ledger{Clients: []api.Client{{Id: 1, Seq: 7, Told: told}}}, command(1, 7, o), told)
		}
	}
}

// 10.2: one of long ago.
func TestStale(t *testing.T) {
	stale := api.Told{Why: api.ErrStale}
	for _, o := range orders() {
		for _, seq := range []uint64{0, 1, 2} {
			refuses(t, "below", some(), command(2, seq, o), stale)
		}
		for _, seq := range []uint64{0, 1, 1<<50 - 1} {
			refuses(t, "far below", some(), command(1<<40, seq, o), stale)
		}
		for i, c := range full().Clients {
			if i > 0 {
				refuses(t, "no room", full(), command(c.Id, uint64(i-1), o), stale)
			}
		}
		last := api.Ledger{Clients: []api.Client{{Id: most, Seq: most}}}
		for _, seq := range []uint64{0, 1, 1 << 63, most - 1} {
			refuses(t, "the last of all", last, command(most, seq, o), stale)
		}
	}
}

// 10.2: there is no room for one more client; those that are remembered, and nobody, go on.
func TestFull(t *testing.T) {
	l := full()
	name := l.Book.Tasks[5].Name
	for _, id := range []uint64{1, 9, 11, 35, 79, 81, most} {
		for _, seq := range []uint64{0, 1, most} {
			for _, o := range append(orders(), done(name)) {
				refuses(t, "a ninth", l, command(id, seq, o), api.Told{Why: api.ErrFull})
			}
		}
	}
	b, says := book.Do(l.Book, done(name))
	if says.Why != api.OK {
		t.Fatal(says)
	}
	want := api.Ledger{Book: b, Clients: l.Clients}
	applies(t, "of nobody", l, command(0, 0, done(name)), want, api.Told{})
	for _, c := range l.Clients {
		applies(t, "of one of the eight", l, command(c.Id, 100, done(name)), remembered(want, c.Id, 100, api.Told{}), api.Told{})
	}
	for at, c := range l.Clients {
		seven := clone(l)
		seven.Clients = slices.Delete(seven.Clients, at, at+1)
		applies(t, "the eighth", seven, command(c.Id, c.Seq, look("none")), remembered(seven, c.Id, c.Seq, api.Told{Why: api.ErrNone}), api.Told{Why: api.ErrNone})
	}
}

// 10.2: a book that has no room is ErrFull, too; that is remembered, as whatever is told.
func TestFullBook(t *testing.T) {
	l := full()
	l.Clients = l.Clients[:7]
	told := api.Told{Why: api.ErrFull}
	applies(t, "of a new client", l, command(1, 1, task("a")), remembered(l, 1, 1, told), told)
	refuses(t, "of nobody", l, command(0, 0, task("a")), told)
	refuses(t, "again", remembered(l, 1, 1, told), command(1, 1, task("a")), told)
}

// 10.2: what is no command's bytes is refused ahead of all else, and nobody is remembered for it.
func TestNoCommand(t *testing.T) {
	form := api.Told{Why: api.ErrForm}
	for what, l := range map[string]api.Ledger{"nothing": {}, "some": some(), "full": full()} {
		for _, s := range []string{"", "?", "\x00", command(2, 3, look("a")) + "\x00", command(2, 3, look("a"))[1:], string(make([]byte, 1<<16))} {
			refuses(t, what, l, s, form)
		}
		for _, data := range []string{command(2, 3, look("a")), command(2, 4, done("a")), command(9, 1, bind("d", "l", 5)), command(0, 0, task("g"))} {
			for _, s := range ordertest.Broken(data) {
				refuses(t, what, l, s, form)
			}
		}
		for i, c := range ordertest.WrongCommands() {
			if i%5 == 0 || c.Order.Kind != api.OrderTask {
				refuses(t, what, l, ordertest.CommandBytes(c), form)
			}
		}
	}
}

// 10.2: who is told what, in a row; the chapter's example is among it.
func TestRow(t *testing.T) {
	ok, twice, stale := api.Told{}, api.Told{Why: api.ErrTwice}, api.Told{Why: api.ErrStale}
	l := api.Ledger{}
	for i, one := range []struct {
		client, seq uint64
		o           api.Order
		want        api.Told
	}{
		{2, 3, task("a"), ok},
		{2, 3, task("a"), ok},
		{2, 1, task("b"), stale},
		{2, 3, task("b"), ok}, // another one of that number: nothing is done
		{0, 0, look("b"), api.Told{Why: api.ErrNone}},
		{0, 0, task("a"), twice},
		{0, 0, task("b"), ok},
		{0, 0, task("b"), twice}, // of nobody: it is done again
		{1, 9, task("a"), twice},
		{2, 4, done("a"), ok},
		{1, 9, task("a"), twice}, // as it was told, though there is none any more
		{1, 10, task("a"), ok},
		{2, 4, done("a"), ok},
		{2, 3, task("a"), stale},
		{3, 0, api.Order{Kind: api.OrderNode, Node: api.Node{Name: "n"}}, ok},
		{3, 1, bind("a", "n", 0), ok},
		{3, 2, look("a"), api.Told{Text: "n"}},
		{0, 0, free("a"), ok},
		{3, 2, look("a"), api.Told{Text: "n"}},
		{3, 3, look("a"), ok},
		{3, 2, look("a"), stale},
		{3, 1, bind("a", "n", 0), stale},
		{3, 0, bind("a", "n", 0), stale},
		{3, 100, bind("a", "n", 0), ok},
		{3, 99, bind("a", "n", 0), stale},
	} {
		var told api.Told
		if l, told = ledger.Apply(l, command(one.client, one.seq, one.o)); told != one.want {
			t.Errorf("%d: told is %v, not %v", i, told, one.want)
		}
	}
	want := []api.Client{{Id: 1, Seq: 10}, {Id: 2, Seq: 4}, {Id: 3, Seq: 100}}
	if !slices.Equal(l.Clients, want) || len(l.Book.Tasks) != 2 || len(l.Book.Binds) != 1 {
		t.Errorf("in the end: %s", brief(l))
	}
}
