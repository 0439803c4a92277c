package cluster_test

import (
	"testing"

	"gaffer/api"
	"gaffer/booktest"
	"gaffer/cluster"
	"gaffer/ordertest"
)

// Made and taken, one behind the other, all is what it was.
func TestThereAndBack(t *testing.T) {
	wide, broad := ordertest.Widest()
	nodes := []api.Node{booktest.SomeNode(), {Name: "n"}, wide}
	tasks := []api.Task{booktest.SomeTask(), {Name: "t", Rank: -1000}, broad}
	tolds := ordertest.Tolds()
	var m cluster.Maker
	var want ordertest.Bytes
	for i := range nodes {
		m.Node(nodes[i])
		m.Task(tasks[i])
		want.Node(nodes[i])
		want.Task(tasks[i])
	}
	for _, told := range tolds {
		m.Told(told)
		want.Told(told)
	}
	if m.Bytes() != want.String() {
		t.Fatalf("made is %x", m.Bytes())
	}
	k := cluster.Of(m.Bytes())
	for i := range nodes {
		if n, task := k.Node(), k.Task(); !booktest.SameNode(n, nodes[i]) || !booktest.SameTask(task, tasks[i]) {
			t.Errorf("%d: %v, %v", i, n, task)
		}
	}
	for i, want := range tolds {
		if told := k.Told(); told != want || k.Done() != (i == len(tolds)-1) {
			t.Errorf("%d: %v, not %v", i, told, want)
		}
	}
}

// What is cut short, or has a number that is too great to be converted, is none.
func TestWrong(t *testing.T) {
	node := func(k *cluster.Taker) { k.Node() }
	task := func(k *cluster.Taker) { k.Task() }
	told := func(k *cluster.Taker) { k.Told() }
	take := func(what, s string, one func(k *cluster.Taker), want bool) {
		t.Helper()
		k := cluster.Of(s)
		if one(&k); k.Done() != want {
			t.Errorf("%s, %x: done is %t", what, s, !want)
		}
	}
	for _, one := range []struct {
		s    string
		take func(k *cluster.Taker)
	}{
		{"\x01\x01n\x01\x01\x00\x00\x01\x01\x01\x01a\x00\x00", node},
		{"\x01\x01t\x01\x01\x00\x00\x00\x00\x00\x00\x02\x07\xd0", task},
		{"\x01\xff\x01\x01n", told},
	} {
		take("whole", one.s, one.take, true)
		for _, s := range ordertest.Broken(one.s) {
			take("broken", s, one.take, false)
		}
	}
	take("too great an amount", "\x01\x01n\x06\x01\x00\x00\x00\x00\x01\x00\x00\x00\x00", node, false)
	take("too great an amount", "\x01\x01n\x00\x00\x08\xff\xff\xff\xff\xff\xff\xff\xff\x00\x00", node, false)
	take("too many pairs", "\x01\x01n\x00\x00\x00\x00\x01\x05\x00\x00\x00\x00\x00\x00\x00\x00\x00\x00", node, false)
	take("too great a Rank", "\x01\x01t\x00\x00\x00\x00\x00\x00\x00\x02\x07\xd1", task, false)
	take("too great a Why", "\x02\x01\x00\x00", told, false)
}
