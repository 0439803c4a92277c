package queue_test

import (
	"slices"
	"testing"

	"gaffer/api"
	"gaffer/booktest"
	"gaffer/queue"
)

// books are those at the edges, and many that are drawn.
func books() []api.Book {
	var list []api.Book
	for _, b := range booktest.RightBooks() {
		list = append(list, b)
	}
	for seed := range uint64(400) {
		list = append(list, booktest.Drawn(seed))
	}
	return list
}

// first is the place of the one in l that waits ahead of all others.
func first(l []api.Task) int {
	at := 0
	for i, t := range l {
		if t.Rank > l[at].Rank || t.Rank == l[at].Rank && t.Name < l[at].Name {
			at = i
		}
	}
	return at
}

// 11.1 and 11.3: of many books, each task is on a node, or waits, just once; those that wait do so in order.
func TestEach(t *testing.T) {
	for _, b := range books() {
		got, why := queue.Waiting(b)
		left := booktest.On(b, "")
		for _, k := range got {
			if len(left) == 0 || !booktest.SameTask(k, left[first(left)]) {
				t.Fatalf("%s: %v waits, not what is the first of %v", booktest.Brief(b), k, left)
			}
			at := first(left)
			left = slices.Delete(left, at, at+1)
		}
		if len(left) != 0 || why != api.OK || len(got)+len(b.Binds) != len(b.Tasks) {
			t.Errorf("%s: %d wait, and %d that were not told, error %d", booktest.Brief(b), len(got), len(left), why)
		}
	}
}

// 11.1 and 11.4: of many books, what is used of each node, and of all together, is what the tasks there need.
func TestTogether(t *testing.T) {
	for _, b := range books() {
		loads, why := queue.Loads(b)
		if len(loads) != len(b.Nodes) || why != api.OK {
			t.Fatalf("%s: %d loads, error %d", booktest.Brief(b), len(loads), why)
		}
		var used, need amounts
		for i, l := range loads {
			var here amounts
			for _, k := range booktest.On(b, b.Nodes[i].Name) {
				for kind, amount := range k.Needs {
					here[kind] += amount
					need[kind] += amount
				}
			}
			if !booktest.SameNode(l.Node, b.Nodes[i]) || l.Used != here {
				t.Errorf("%s: %v, not %v", booktest.Brief(b), l, here)
			}
			for kind, amount := range l.Used {
				used[kind] += amount
			}
		}
		if used != need {
			t.Errorf("%s: %v are used, %v needed", booktest.Brief(b), used, need)
		}
	}
}

// 11.1: of many books, Free of each task.
func TestFreeOfEach(t *testing.T) {
	for _, b := range books() {
		for _, k := range booktest.On(b, "") {
			var want []string
			for _, n := range b.Nodes {
				if booktest.Fits(b, k, n) {
					want = append(want, n.Name)
				}
			}
			frees(t, booktest.Brief(b), b, k.Name, api.OK, want...)
		}
		for _, on := range b.Binds {
			frees(t, booktest.Brief(b), b, on.Task, api.ErrTwice)
		}
	}
}
