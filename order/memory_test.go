package order_test

import (
	"testing"

	"gaffer/api"
	"gaffer/booktest"
	"gaffer/order"
	"gaffer/ordertest"
)

// thereAndBack answers a book of nothing but the node and the task of what was decoded, so that commands are held against what books are.
func thereAndBack(_ api.Book, o api.Order) (api.Book, api.Told) {
	c := api.Command{Client: 1, Seq: 1, Order: o}
	order.Check(c)
	s, why := order.Encode(c)
	c, _ = order.Decode(s)
	return api.Book{Nodes: []api.Node{c.Order.Node}, Tasks: []api.Task{c.Order.Task}}, api.Told{Why: why}
}

// 9.2: what is decoded is new memory, and what is handed in is neither changed nor kept; room behind the lists' end, too.
func TestNewMemory(t *testing.T) {
	for _, o := range ordertest.Orders() {
		if shares := booktest.Shares(api.Book{}, o, thereAndBack); shares != "" {
			t.Errorf("%.200v: %s", o, shares)
		}
	}
	for _, c := range wrongs() {
		if shares := booktest.Shares(api.Book{}, c.Order, thereAndBack); shares != "" {
			t.Errorf("%.200v: %s", c, shares)
		}
	}
}

// 9.2: lists of the command that share memory are taken for what they are, and apart in what is decoded.
func TestListsApart(t *testing.T) {
	l := booktest.Pairs("a", "", "b", "", "c", "", "d", "")
	for _, o := range []api.Order{
		{Kind: api.OrderNode, Node: api.Node{Name: "n", Labels: l[:2], Taints: l}},
		{Kind: api.OrderTask, Task: api.Task{Name: "t", Wants: l[1:], Bears: l[:3]}},
	} {
		s, _ := order.Encode(api.Command{Order: o})
		c, why := order.Decode(s)
		if why != api.OK || !ordertest.Same(c, api.Command{Order: o}) {
			t.Fatalf("%v: %v, error %d", o, c, why)
		}
		if !booktest.Apart(api.Book{Nodes: []api.Node{c.Order.Node}, Tasks: []api.Task{c.Order.Task}}) {
			t.Errorf("%v: two lists share memory", o)
		}
	}
}

// P3: asked again, behind others, each tells the same; what is done with an answer is not seen in the next one.
func TestAskedAgain(t *testing.T) {
	for _, c := range ordertest.Commands() {
		s, why := order.Encode(c)
		first, no := order.Decode(s)
		for _, l := range [][]api.Pair{first.Order.Node.Labels, first.Order.Node.Taints, first.Order.Task.Wants, first.Order.Task.Bears} {
			for i := range l {
				l[i] = api.Pair{Key: "spoilt"}
			}
		}
		again, also := order.Encode(c)
		second, neither := order.Decode(s)
		if again != s || !ordertest.Same(second, c) || why != also || no != neither {
			t.Errorf("%.200v: another one: %.200v", c, second)
		}
	}
}
