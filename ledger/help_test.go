package ledger_test

import (
	"math"
	"testing"

	"gaffer/api"
	"gaffer/ledger"
	"gaffer/ledgertest"
	"gaffer/ordertest"
)

const most = math.MaxUint64

// What the tests of all that has ledgers have.
var (
	some   = ledgertest.Some
	with   = ledgertest.With
	full   = ledgertest.Full
	widest = ledgertest.Widest
	rights = ledgertest.Rights
	wrongs = ledgertest.Wrongs
	same   = ledgertest.Same
	clone  = ledgertest.Clone
	brief  = ledgertest.Brief
)

// bytesOf does what the chapter says of any ledger, right or not.
func bytesOf(l api.Ledger) ordertest.Bytes {
	var b ordertest.Bytes
	b.Number(l.Book.Fence)
	b.Number(uint64(len(l.Book.Nodes)))
	for _, n := range l.Book.Nodes {
		b.Node(n)
	}
	b.Number(uint64(len(l.Book.Tasks)))
	for _, t := range l.Book.Tasks {
		b.Task(t)
	}
	b.Number(uint64(len(l.Book.Binds)))
	for _, on := range l.Book.Binds {
		b.Text(on.Task)
		b.Text(on.Node)
	}
	b.Number(uint64(len(l.Clients)))
	for _, c := range l.Clients {
		b.Number(c.Id)
		b.Number(c.Seq)
		b.Told(c.Told)
	}
	return b
}

func command(client, seq uint64, o api.Order) string {
	return ordertest.CommandBytes(api.Command{Client: client, Seq: seq, Order: o})
}

func task(name string) api.Order { return api.Order{Kind: api.OrderTask, Task: api.Task{Name: name}} }
func done(name string) api.Order { return ordertest.Named(api.OrderDone, name) }
func free(name string) api.Order { return ordertest.Named(api.OrderFree, name) }
func look(name string) api.Order { return ordertest.Named(api.OrderLook, name) }

func bind(name, on string, fence uint64) api.Order {
	return api.Order{Kind: api.OrderBind, Name: name, On: on, Fence: fence}
}

// applies holds what becomes of l, and what is told, against what is to be; l is to stay as it was.
func applies(t *testing.T, what string, l api.Ledger, data string, want api.Ledger, told api.Told) {
	t.Helper()
	given := clone(l)
	got, says := ledger.Apply(given, data)
	if says != told {
		t.Errorf("%s: told is %v, not %v", what, says, told)
	}
	if !same(got, want) {
		t.Errorf("%s: %s; not %s", what, brief(got), brief(want))
	}
	if !same(given, l) {
		t.Errorf("%s: what was handed in is changed", what)
	}
}

// refuses is of what does nothing: l stays as it was.
func refuses(t *testing.T, what string, l api.Ledger, data string, told api.Told) {
	t.Helper()
	applies(t, what, l, data, l, told)
}
