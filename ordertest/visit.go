package ordertest

import (
	"gaffer/api"
	"gaffer/booktest"
	"gaffer/memtest"
)

// Visit goes through all lists of c.
func Visit(v *memtest.Visitor, c *api.Command) {
	booktest.VisitNode(v, &c.Order.Node)
	booktest.VisitTask(v, &c.Order.Task)
}
