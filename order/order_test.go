package order_test

import (
	"math/rand"
	"testing"

	"gaffer/api"
	"gaffer/booktest"
	"gaffer/order"
	"gaffer/ordertest"
)

// wrongs are all commands that are not right.
func wrongs() []api.Command {
	return append(ordertest.WrongCommands(), append(ordertest.Overfull(), api.Command{}, api.Command{Client: 1, Seq: 1})...)
}

// 9.1: Check, and Encode, which has its error.
func TestCommands(t *testing.T) {
	for _, c := range ordertest.Commands() {
		if why := order.Check(c); why != api.OK {
			t.Errorf("%.200v: Check: error %d", c, why)
		}
		if s, why := order.Encode(c); s != ordertest.CommandBytes(c) || why != api.OK {
			t.Errorf("%.200v: Encode: %x, error %d", c, s, why)
		}
	}
	for _, c := range wrongs() {
		if why := order.Check(c); why != api.ErrForm {
			t.Errorf("%.200v: Check: error %d", c, why)
		}
		if s, why := order.Encode(c); s != "" || why != api.ErrForm {
			t.Errorf("%.200v: Encode: %.20x, error %d", c, s, why)
		}
	}
}

// 9.1: Client 0 with a Seq, and without; any other one with any.
func TestClient(t *testing.T) {
	look := ordertest.Named(api.OrderLook, "a")
	for i, one := range []struct {
		client, seq uint64
		want        api.Errno
	}{{0, 0, api.OK}, {0, 1, api.ErrForm}, {0, 1 << 63, api.ErrForm}, {1, 0, api.OK}, {1, 1, api.OK}, {1 << 63, 0, api.OK}, {1 << 32, 1 << 32, api.OK}} {
		c := api.Command{Client: one.client, Seq: one.seq, Order: look}
		s, no := order.Encode(c)
		if why := order.Check(c); why != one.want || no != one.want {
			t.Errorf("%d: errors %d and %d, not %d: %x", i, why, no, one.want, s)
		}
		if _, why := order.Decode(ordertest.CommandBytes(c)); why != one.want {
			t.Errorf("%d: Decode: error %d, not %d", i, why, one.want)
		}
	}
}

// 9.1: empty lists are no fields that a kind has not.
func TestEmptyLists(t *testing.T) {
	for _, o := range ordertest.Orders() {
		c := api.Command{Client: 1, Order: o}
		want, _ := order.Encode(c)
		for _, l := range []*[]api.Pair{&c.Order.Node.Labels, &c.Order.Node.Taints, &c.Order.Task.Wants, &c.Order.Task.Bears} {
			if len(*l) == 0 {
				*l = []api.Pair{}
			}
		}
		if s, why := order.Encode(c); s != want || why != api.OK || order.Check(c) != api.OK {
			t.Errorf("%.200v: %x, error %d", c, s, why)
		}
	}
}

// 9.1: bytes that are known, one by one: the chapter's example, and one of each kind.
func TestKnown(t *testing.T) {
	n := api.Node{Name: "n", Has: [api.Kinds]int64{1, 0, 1 << 40}, Labels: booktest.Pairs("a", "", "b", "c"), Taints: booktest.Pairs("gpu", "x")}
	k := api.Task{Name: "t-1", Needs: [api.Kinds]int64{258, 3, 0}, Wants: booktest.Pairs("a", ""), Bears: booktest.Pairs("gpu", "x", "old", ""), Group: "g", Apart: "hi", Rank: -7}
	for i, one := range []struct {
		c    api.Command
		want string
	}{
		{api.Command{Client: 2, Seq: 3, Order: api.Order{Kind: api.OrderNode, Node: n}}, "\x01\x02\x01\x03\x01\x01" + "\x01\x01n" + "\x01\x01" + "\x00" + "\x06\x01\x00\x00\x00\x00\x00" + "\x01\x02\x01\x01a\x00\x01\x01b\x01\x01c" + "\x01\x01\x01\x03gpu\x01\x01x"},
		{api.Command{Client: 2, Seq: 3, Order: api.Order{Kind: api.OrderGone, Name: "n"}}, "\x01\x02\x01\x03\x01\x02\x01\x01n"},
		{api.Command{Client: 256, Order: api.Order{Kind: api.OrderTask, Task: k}}, "\x02\x01\x00\x00\x01\x03" + "\x01\x03t-1" + "\x02\x01\x02" + "\x01\x03" + "\x00" + "\x01\x01\x01\x01a\x00" + "\x01\x02\x01\x03gpu\x01\x01x\x01\x03old\x00" + "\x01\x01g" + "\x01\x02hi" + "\x02\x03\xe1"},
		{api.Command{Order: api.Order{Kind: api.OrderTask, Task: api.Task{Name: "t", Rank: -1000}}}, "\x00\x00\x01\x03\x01\x01t\x00\x00\x00\x00\x00\x00\x00\x00"},
		{api.Command{Order: api.Order{Kind: api.OrderTask, Task: api.Task{Name: "t"}}}, "\x00\x00\x01\x03\x01\x01t\x00\x00\x00\x00\x00\x00\x00\x02\x03\xe8"},
		{api.Command{Order: api.Order{Kind: api.OrderTask, Task: api.Task{Name: "t", Rank: 1000}}}, "\x00\x00\x01\x03\x01\x01t\x00\x00\x00\x00\x00\x00\x00\x02\x07\xd0"},
		{api.Command{Client: 1, Seq: 1, Order: api.Order{Kind: api.OrderDone, Name: "t"}}, "\x01\x01\x01\x01\x01\x04\x01\x01t"},
		{api.Command{Order: api.Order{Kind: api.OrderBind, Name: "t", On: "n1", Fence: 258}}, "\x00\x00\x01\x05\x01\x01t\x01\x02n1\x02\x01\x02"},
		{api.Command{Client: 1, Seq: 1, Order: api.Order{Kind: api.OrderFree, Name: "t"}}, "\x01\x01\x01\x01\x01\x06\x01\x01t"},
		{api.Command{Client: 2, Seq: 3, Order: api.Order{Kind: api.OrderLook, Name: "a"}}, "\x01\x02\x01\x03\x01\x07\x01\x01a"},
	} {
		if s, why := order.Encode(one.c); s != one.want || why != api.OK {
			t.Errorf("%d: %x, not %x; error %d", i, s, one.want, why)
		}
		if c, why := order.Decode(one.want); !ordertest.Same(c, one.c) || why != api.OK {
			t.Errorf("%d: %v, error %d", i, c, why)
		}
	}
}

// 9.3: of each right command.
func TestThereAndBack(t *testing.T) {
	for _, c := range ordertest.Commands() {
		s, _ := order.Encode(c)
		got, why := order.Decode(s)
		if !ordertest.Same(got, c) || why != api.OK {
			t.Errorf("%.200v: %.200v, error %d", c, got, why)
		}
		if again, _ := order.Encode(got); again != s {
			t.Errorf("%.200v: %x, not %x", c, again, s)
		}
	}
}

// 9.4: two that are not one have unlike bytes; that of their node or task by a single field, too.
func TestApart(t *testing.T) {
	var all []api.Command
	of := map[string]int{}
	for _, c := range ordertest.Commands() {
		s, _ := order.Encode(c)
		at, there := of[s]
		if there && !ordertest.Same(all[at], c) {
			t.Errorf("%.200v and %.200v have the same bytes", all[at], c)
		}
		of[s] = len(all)
		all = append(all, c)
	}
	if len(of) < 100 {
		t.Errorf("only %d are not one", len(of))
	}
	for _, two := range [][2][]api.Pair{
		{booktest.Pairs("a", "b"), booktest.Pairs("ab", "")},
		{booktest.Pairs("a", "", "b", ""), booktest.Pairs("a", "b")},
		{nil, booktest.Pairs("a", "")},
	} {
		for _, c := range [][2]api.Order{
			{{Kind: api.OrderNode, Node: api.Node{Name: "n", Labels: two[0]}}, {Kind: api.OrderNode, Node: api.Node{Name: "n", Labels: two[1]}}},
			{{Kind: api.OrderNode, Node: api.Node{Name: "n", Labels: two[0], Taints: two[1]}}, {Kind: api.OrderNode, Node: api.Node{Name: "n", Labels: two[1], Taints: two[0]}}},
			{{Kind: api.OrderTask, Task: api.Task{Name: "n", Wants: two[0], Bears: two[1]}}, {Kind: api.OrderTask, Task: api.Task{Name: "n", Wants: two[1], Bears: two[0]}}},
			{{Kind: api.OrderTask, Task: api.Task{Name: "n", Group: "g"}}, {Kind: api.OrderTask, Task: api.Task{Name: "n", Apart: "g"}}},
		} {
			one, why := order.Encode(api.Command{Order: c[0]})
			other, no := order.Encode(api.Command{Order: c[1]})
			if one == other || why != api.OK || no != api.OK {
				t.Errorf("%v and %v: %x, errors %d, %d", c[0], c[1], one, why, no)
			}
		}
	}
}

func noCommand(t *testing.T, what, s string) {
	t.Helper()
	if c, why := order.Decode(s); !ordertest.Same(c, api.Command{}) || why != api.ErrForm {
		t.Errorf("%s, %.60x: %.200v, error %d", what, s, c, why)
	}
}

// 9.1: Decode of what is cut short, has bytes behind it, or spells a number in another way.
func TestDecodeBroken(t *testing.T) {
	for _, c := range ordertest.Commands() {
		var b ordertest.Bytes
		b.Command(c)
		for _, s := range ordertest.Broken(b.String()) {
			noCommand(t, "broken", s)
		}
		for _, s := range b.Otherwise() {
			noCommand(t, "spelt otherwise", s)
		}
	}
}

// 9.1: Decode of bytes that are well made, but of no right command.
func TestDecodeWrong(t *testing.T) {
	for _, c := range ordertest.WrongCommands() {
		noCommand(t, "not right", ordertest.CommandBytes(c))
	}
	for _, kind := range []string{"\x00", "\x01\x08", "\x01\x09", "\x01\xff", "\x02\x01\x00", "\x02\x01\x01", "\x02\x01\x07", "\x03\x01\x00\x07", "\x05\x01\x00\x00\x00\x07", "\x08\x80\x00\x00\x00\x00\x00\x00\x07"} {
		noCommand(t, "Kind", "\x01\x02\x01\x03"+kind+"\x01\x01a")
		noCommand(t, "Kind, and no more", "\x01\x02\x01\x03"+kind)
		noCommand(t, "Kind of a bind", "\x01\x02\x01\x03"+kind+"\x01\x01a\x01\x01b\x01\x05")
	}
	task, node := "\x00\x00\x01\x03\x01\x01t\x00\x00\x00\x00\x00\x00\x00", "\x00\x00\x01\x01\x01\x01n\x00\x00\x00"
	for _, rank := range []string{"\x02\x07\xd1", "\x02\x07\xd2", "\x03\x01\x00\x00", "\x05\x01\x00\x00\x03\xe8", "\x08\xff\xff\xff\xff\xff\xff\xff\xff", "\x08\x80\x00\x00\x00\x00\x00\x03\xe8", "\x08\x7f\xff\xff\xff\xff\xff\xff\xff"} {
		noCommand(t, "Rank", task+rank)
	}
	for _, amount := range []string{"\x06\x01\x00\x00\x00\x00\x01", "\x08\x80\x00\x00\x00\x00\x00\x00\x01", "\x08\x80\x00\x00\x00\x00\x00\x00\x00", "\x08\xff\xff\xff\xff\xff\xff\xff\xff"} {
		noCommand(t, "an amount", "\x00\x00\x01\x01\x01\x01n"+amount+"\x00\x00\x00\x00")
		noCommand(t, "an amount", "\x00\x00\x01\x03\x01\x01n\x00\x00"+amount+"\x00\x00\x00\x00\x00")
	}
	for _, count := range []string{"\x01\x02", "\x01\x05", "\x02\x01\x00", "\x02\x01\x01", "\x05\x01\x00\x00\x00\x01", "\x08\x80\x00\x00\x00\x00\x00\x00\x01", "\x08\xff\xff\xff\xff\xff\xff\xff\xff"} {
		noCommand(t, "so many pairs", node+count+"\x01\x01a\x00\x00")
		noCommand(t, "so many pairs", node+"\x00"+count+"\x01\x01a\x00")
	}
	for _, pairs := range []string{"\x01\x02\x01\x01b\x00\x01\x01a\x00", "\x01\x02\x01\x01a\x00\x01\x01a\x00", "\x01\x01\x00\x00", "\x01\x01\x01\x01A\x00", "\x01\x01\x01\x01a\x01\x01A", "\x01\x05\x01\x01a\x00\x01\x01b\x00\x01\x01c\x00\x01\x01d\x00\x01\x01e\x00"} {
		noCommand(t, "pairs", node+pairs+"\x00")
		noCommand(t, "pairs", node+"\x00"+pairs)
	}
	noCommand(t, "nothing", "")
	noCommand(t, "text", "?")
}

// reads holds what becomes of any bytes against 9.1 and 9.3: a right command, of which these are the bytes, or none. It tells whether it was one.
func reads(t *testing.T, s string) bool {
	t.Helper()
	c, why := order.Decode(s)
	switch {
	case why == api.OK:
		if again, no := order.Encode(c); again != s || no != api.OK || order.Check(c) != api.OK || ordertest.CommandBytes(c) != s {
			t.Errorf("%x is %.200v, which is %x, error %d", s, c, again, no)
		}
		return true
	case why != api.ErrForm || !ordertest.Same(c, api.Command{}):
		t.Errorf("%.60x: %.200v, error %d", s, c, why)
	}
	return false
}

// 9.1, 9.3 and P1, of any bytes: with one bit turned, with another number somewhere, and drawn.
func TestDecodeAny(t *testing.T) {
	read := 0
	look := func(s string) {
		if reads(t, s) {
			read++
		}
	}
	for _, c := range ordertest.Commands() {
		var b ordertest.Bytes
		b.Command(c)
		for _, s := range append(b.Others(), ordertest.Turned(b.String())...) {
			if s == b.String() {
				t.Fatal("nothing is turned")
			}
			if got, why := order.Decode(s); why == api.OK && ordertest.Same(got, c) {
				t.Errorf("%x and %x are one command: %.200v", s, b.String(), c)
			}
			look(s)
		}
	}
	draw := rand.New(rand.NewSource(9))
	for range 50000 {
		b := make([]byte, draw.Intn(20))
		for i := range b {
			b[i] = "\x00\x00\x01\x01\x01\x02\x05\x07ab-\xff"[draw.Intn(12)]
		}
		look(string(b))
	}
	if read < 1000 {
		t.Errorf("only %d of them were commands", read)
	}
}
