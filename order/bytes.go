package order

import (
	"gaffer/api"
	"gaffer/cluster"
)

// maker makes commands' parts, of right ones; taker takes them, of right ones or not.
type maker struct{ cluster.Maker }
type taker struct{ cluster.Taker }

func (m *maker) command(c api.Command) {
	m.Number(c.Client)
	m.Number(c.Seq)
	m.Number(uint64(c.Order.Kind))
	m.fields(c.Order)
}

func (t *taker) command() api.Command {
	var c api.Command
	c.Client = t.Number()
	c.Seq = t.Number()
	c.Order.Kind = api.OrderKind(t.Upto(uint64(api.OrderCount)))
	t.fields(&c.Order)
	return c
}

// fields makes what the kind has, and nothing else.
func (m *maker) fields(o api.Order) {
	switch o.Kind {
	case api.OrderNode:
		m.Node(o.Node)
	case api.OrderTask:
		m.Task(o.Task)
	case api.OrderBind:
		m.Text(o.Name)
		m.Text(o.On)
		m.Number(o.Fence)
	default:
		m.Text(o.Name)
	}
}

// fields takes just as much, by the kind that o has already.
func (t *taker) fields(o *api.Order) {
	switch o.Kind {
	case api.OrderNode:
		o.Node = t.Node()
	case api.OrderTask:
		o.Task = t.Task()
	case api.OrderBind:
		o.Name = t.Text()
		o.On = t.Text()
		o.Fence = t.Number()
	default:
		o.Name = t.Text()
	}
}
