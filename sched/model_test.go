package sched_test

import (
	"math"
	"slices"
	"testing"

	"gaffer/api"
	"gaffer/book"
	"gaffer/booktest"
	"gaffer/sched"
)

// books are those at the edges, and many that are drawn.
func books() []api.Book {
	var list []api.Book
	for _, b := range booktest.RightBooks() {
		list = append(list, b)
	}
	for seed := range uint64(400) {
		list = append(list, booktest.Drawn(seed))
	}
	return list
}

// points are the score, as chapter 7 has it, of a task on a node of b that has a place there.
func points(b api.Book, t api.Task, n api.Node) int64 {
	var sum int64
	for kind, has := range n.Has {
		used := t.Needs[kind]
		for _, other := range booktest.On(b, n.Name) {
			used += other.Needs[kind]
		}
		if has > 0 {
			sum += 1000 * used / has
		}
	}
	return sum
}

// best is the node on which t is best in b, where it waits; false, if there is none.
func best(b api.Book, t api.Task) (api.Node, bool) {
	var l []api.Node
	for _, n := range b.Nodes {
		if booktest.Fits(b, t, n) {
			l = append(l, n)
		}
	}
	if len(l) == 0 {
		return api.Node{}, false
	}
	slices.SortStableFunc(l, func(m, n api.Node) int { return int(points(b, t, n) - points(b, t, m)) })
	return l[0], true
}

// model is the plan as the chapter's words have it: the book is asked anew in each step.
func model(b api.Book, fence uint64) []api.Order {
	var l []api.Order
	for len(l) < 8 {
		waiting := booktest.On(b, "")
		slices.SortStableFunc(waiting, func(s, t api.Task) int { return t.Rank - s.Rank })
		at := slices.IndexFunc(waiting, func(t api.Task) bool { _, there := best(b, t); return there })
		if at < 0 {
			break
		}
		t := waiting[at]
		n, _ := best(b, t)
		l = append(l, steps(fence, t.Name, n.Name)...)
		b.Binds = append(slices.Clone(b.Binds), api.Bind{Task: t.Name, Node: n.Name})
	}
	return l
}

// 12.1 and 12.5: the plan of many books; quiet are just those whose plan has no step.
func TestManyPlans(t *testing.T) {
	lengths := map[int]int{}
	for _, b := range books() {
		want := model(b, 3)
		l, why := sched.Plan(b, 3)
		if !slices.EqualFunc(l, want, same) || why != api.OK {
			t.Fatalf("%s: %s, error %d; not %s", booktest.Brief(b), brief(l), why, brief(want))
		}
		if quiet, why := sched.Quiet(b); quiet != (len(want) == 0) || why != api.OK {
			t.Fatalf("%s: quiet is %v, error %d, of %s", booktest.Brief(b), quiet, why, brief(want))
		}
		lengths[len(l)]++
	}
	if lengths[0] < 20 || lengths[1] < 20 || lengths[8] < 20 {
		t.Errorf("so many plans of each length: %v", lengths)
	}
}

// 12.3 and 12.4: each step of a plan, done in order, is OK; plans done one behind the other end, and then the book is quiet.
func TestToTheEnd(t *testing.T) {
	most := 0
	for _, b := range books() {
		fence, waiting := b.Fence, len(b.Tasks)-len(b.Binds)
		for many := 1; ; many++ {
			l, why := sched.Plan(b, fence)
			quiet, no := sched.Quiet(b)
			if why != api.OK || no != api.OK || quiet != (len(l) == 0) {
				t.Fatalf("%s: %s, error %d; quiet is %v, error %d", booktest.Brief(b), brief(l), why, quiet, no)
			}
			if quiet {
				break
			}
			if waiting -= len(l); waiting < 0 {
				t.Fatalf("%s: more steps than tasks that wait", booktest.Brief(b))
			}
			for _, o := range l {
				var told api.Told
				if b, told = book.Do(b, o); told != (api.Told{}) {
					t.Fatalf("%s: %v: told is %v", booktest.Brief(b), o, told)
				}
			}
			most = max(most, many)
			fence += min(1, math.MaxUint64-fence) // a leader of a later term
		}
		for _, k := range booktest.On(b, "") {
			if n, there := best(b, k); there {
				t.Errorf("%s is quiet, though %s can be on %s", booktest.Brief(b), k.Name, n.Name)
			}
		}
	}
	if most < 3 {
		t.Errorf("%d plans one behind the other at most", most)
	}
}

// 12.1: the same plan, whatever the two fences are.
func TestAnyFence(t *testing.T) {
	fences := []uint64{0, 3, math.MaxUint64}
	for i, b := range books() {
		fence := fences[i%3]
		b.Fence = fences[i/3%3]
		want := model(b, fence)
		if l, why := sched.Plan(b, fence); !slices.EqualFunc(l, want, same) || why != api.OK {
			t.Fatalf("%s: fence %d: %s, error %d; not %s", booktest.Brief(b), fence, brief(l), why, brief(want))
		}
	}
}
