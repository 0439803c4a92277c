package book_test

import (
	"testing"

	"gaffer/api"
	"gaffer/book"
	"gaffer/booktest"
)

type amounts = [api.Kinds]int64

// What the tests of all that has to do with the cluster have.
var (
	some   = booktest.Some
	with   = booktest.With
	orders = booktest.Orders
	rights = booktest.RightBooks
	wrongs = booktest.WrongBooks
)

func gone(name string) api.Order { return api.Order{Kind: api.OrderGone, Name: name} }
func done(name string) api.Order { return api.Order{Kind: api.OrderDone, Name: name} }
func free(name string) api.Order { return api.Order{Kind: api.OrderFree, Name: name} }
func look(name string) api.Order { return api.Order{Kind: api.OrderLook, Name: name} }

func node(n api.Node) api.Order { return api.Order{Kind: api.OrderNode, Node: n} }
func task(t api.Task) api.Order { return api.Order{Kind: api.OrderTask, Task: t} }

func bind(name, on string, fence uint64) api.Order {
	return api.Order{Kind: api.OrderBind, Name: name, On: on, Fence: fence}
}

// does holds what becomes of b, and what is told, against what is to be; b is to stay as it was.
func does(t *testing.T, b api.Book, o api.Order, want api.Book, told api.Told) {
	t.Helper()
	given := booktest.Clone(b)
	c, says := book.Do(given, o)
	if says != told {
		t.Errorf("%.200v of %s: told is %v, not %v", o, booktest.Brief(b), says, told)
	}
	if !booktest.Same(c, want) {
		t.Errorf("%.200v of %s: %s; not %s", o, booktest.Brief(b), booktest.Brief(c), booktest.Brief(want))
	}
	if !booktest.Same(given, b) {
		t.Errorf("%.200v of %s: what was handed in is changed", o, booktest.Brief(b))
	}
}

// refuses is of an order that leaves b as it was.
func refuses(t *testing.T, b api.Book, o api.Order, why api.Errno) {
	t.Helper()
	does(t, b, o, b, api.Told{Why: why})
}
