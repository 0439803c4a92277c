package booktest

import (
	"strconv"

	"gaffer/api"
	"gaffer/memtest"
)

// Visit goes through all lists of b; VisitNode and VisitTask likewise.
func Visit(v *memtest.Visitor, b *api.Book) {
	memtest.List(v, &b.Nodes, func(n int) api.Node { return api.Node{Name: strconv.Itoa(n)} }, SameNode, func(n *api.Node) { VisitNode(v, n) })
	memtest.List(v, &b.Tasks, func(n int) api.Task { return api.Task{Name: strconv.Itoa(n)} }, SameTask, func(t *api.Task) { VisitTask(v, t) })
	memtest.Plain(v, &b.Binds, func(n int) api.Bind { return api.Bind{Task: strconv.Itoa(n)} })
}

func VisitNode(v *memtest.Visitor, n *api.Node) {
	visitPairs(v, &n.Labels)
	visitPairs(v, &n.Taints)
}

func VisitTask(v *memtest.Visitor, t *api.Task) {
	visitPairs(v, &t.Wants)
	visitPairs(v, &t.Bears)
}

func visitPairs(v *memtest.Visitor, l *[]api.Pair) {
	memtest.Plain(v, l, func(n int) api.Pair { return api.Pair{Key: strconv.Itoa(n)} })
}
