package ordertest_test

import (
	"slices"
	"testing"

	"gaffer/api"
	"gaffer/booktest"
	"gaffer/order"
	"gaffer/ordertest"
)

// The chapter's example, and others, byte by byte.
func TestBytes(t *testing.T) {
	for i, one := range []struct {
		c    api.Command
		want string
	}{
		{api.Command{Client: 2, Seq: 1, Order: ordertest.Named(api.OrderLook, "a")}, "\x01\x02\x01\x01\x01\x07\x01\x01a"},
		{api.Command{Order: ordertest.Named(api.OrderBind, "t")}, "\x00\x00\x01\x05\x01\x01t\x01\x03n-1\x01\x05"},
		{api.Command{Order: api.Order{Kind: api.OrderNode, Node: api.Node{Name: "n", Has: [api.Kinds]int64{1, 0, 256}, Taints: booktest.Pairs("a", "", "b", "c")}}}, "\x00\x00\x01\x01\x01\x01n\x01\x01\x00\x02\x01\x00\x00\x01\x02\x01\x01a\x00\x01\x01b\x01\x01c"},
		{api.Command{Order: api.Order{Kind: api.OrderTask, Task: api.Task{Name: "t", Wants: booktest.Pairs("a", "b"), Group: "g", Apart: "hi", Rank: -999}}}, "\x00\x00\x01\x03\x01\x01t\x00\x00\x00\x01\x01\x01\x01a\x01\x01b\x00\x01\x01g\x01\x02hi\x01\x01"},
	} {
		if s := ordertest.CommandBytes(one.c); s != one.want {
			t.Errorf("%d: %x", i, s)
		}
	}
	if s := ordertest.ToldBytes(api.Told{Why: 13, Text: "ab"}); s != "\x01\x0d\x01\x02ab" {
		t.Errorf("told: %x", s)
	}
}

// What Otherwise, Others, Broken and Turned make.
func TestOtherBytes(t *testing.T) {
	var b ordertest.Bytes
	b.Number(0)
	b.Text("xy")
	l := b.Otherwise()
	if len(l) != 9+8 || l[0] != "\x01\x00\x01\x02xy" || l[1] != "\x02\x00\x00\x01\x02xy" || l[9] != "\x00\x02\x00\x02xy" {
		t.Errorf("Otherwise: %q", l)
	}
	l = b.Others()
	if !slices.Contains(l, "\x01\x04\x01\x02xy") || !slices.Contains(l, "\x00\x01\x01xy") || !slices.Contains(l, "\x00\x02\x01\x02xy") || slices.Contains(l, b.String()) {
		t.Errorf("Others: %q", l)
	}
	if l = ordertest.Broken("xy"); len(l) != 8 || !slices.Contains(l, "") || !slices.Contains(l, "x") || slices.Contains(l, "xy") {
		t.Errorf("Broken: %q", l)
	}
	if l = ordertest.Turned("ab"); len(l) != 16 || l[0] != "`b" || l[15] != "a\xe2" {
		t.Errorf("Turned: %q", l)
	}
}

// What is said of the commands, and of what is told, is so.
func TestRightAndWrong(t *testing.T) {
	for _, c := range ordertest.Commands() {
		if why := order.Check(c); why != api.OK {
			t.Errorf("%.200v: error %d", c, why)
		}
	}
	for _, c := range append(ordertest.WrongCommands(), ordertest.Overfull()...) {
		if why := order.Check(c); why != api.ErrForm {
			t.Errorf("%.200v: error %d", c, why)
		}
	}
	if n, k := ordertest.Widest(); len(n.Name) != api.MaxName || len(k.Name) != api.MaxName {
		t.Errorf("the widest have names of %d and %d bytes", len(n.Name), len(k.Name))
	}
	for kind := api.OrderNode; kind < api.OrderCount; kind++ {
		is := func(o api.Order) bool { return o.Kind == kind }
		of := func(c api.Command) bool { return is(c.Order) }
		if !slices.ContainsFunc(ordertest.Orders(), is) || !slices.ContainsFunc(ordertest.WrongCommands(), of) || !slices.ContainsFunc(ordertest.Overfull(), of) {
			t.Errorf("there is none of kind %d", kind)
		}
	}
}

// Same looks at each field, and Clone has memory of its own.
func TestSame(t *testing.T) {
	c := api.Command{Client: 1, Seq: 2, Order: api.Order{Kind: api.OrderNode, Node: booktest.SomeNode(), Task: booktest.SomeTask(), Name: "a", On: "b", Fence: 3}}
	if !ordertest.Same(c, ordertest.Clone(c)) {
		t.Error("the same is not the same")
	}
	for i, change := range []func(c *api.Command){
		func(c *api.Command) { c.Client++ },
		func(c *api.Command) { c.Seq++ },
		func(c *api.Command) { c.Order.Kind++ },
		func(c *api.Command) { c.Order.Node.Taints[0].Value = "x" },
		func(c *api.Command) { c.Order.Task.Wants[0].Value = "y" },
		func(c *api.Command) { c.Order.Name = "" },
		func(c *api.Command) { c.Order.On = "" },
		func(c *api.Command) { c.Order.Fence++ },
	} {
		other := ordertest.Clone(c)
		if change(&other); ordertest.Same(c, other) {
			t.Errorf("%d: another one is the same", i)
		}
	}
}
