package ledger

import (
	"gaffer/api"
	"gaffer/cluster"
)

// maker makes a ledger's parts, of a right one; taker takes them, of a right one or not.
type maker struct{ cluster.Maker }
type taker struct{ cluster.Taker }

func (m *maker) ledger(l api.Ledger) {
	b := l.Book
	m.Number(b.Fence)
	m.Times(len(b.Nodes), func(at int) { m.Node(b.Nodes[at]) })
	m.Times(len(b.Tasks), func(at int) { m.Task(b.Tasks[at]) })
	m.Times(len(b.Binds), func(at int) { m.bind(b.Binds[at]) })
	m.Times(len(l.Clients), func(at int) { m.client(l.Clients[at]) })
}

func (t *taker) ledger() api.Ledger {
	var b api.Book
	var clients []api.Client
	b.Fence = t.Number()
	t.Times(api.MaxNodes, func() { b.Nodes = append(b.Nodes, t.Node()) })
	t.Times(api.MaxTasks, func() { b.Tasks = append(b.Tasks, t.Task()) })
	t.Times(api.MaxTasks, func() { b.Binds = append(b.Binds, t.bind()) }) // of each task one at most
	t.Times(api.MaxClients, func() { clients = append(clients, t.client()) })
	return api.Ledger{Book: b, Clients: clients}
}

func (m *maker) bind(on api.Bind) {
	m.Text(on.Task)
	m.Text(on.Node)
}

func (t *taker) bind() api.Bind {
	var on api.Bind
	on.Task = t.Text()
	on.Node = t.Text()
	return on
}

func (m *maker) client(c api.Client) {
	m.Number(c.Id)
	m.Number(c.Seq)
	m.Told(c.Told)
}

func (t *taker) client() api.Client {
	var c api.Client
	c.Id = t.Number()
	c.Seq = t.Number()
	c.Told = t.Told()
	return c
}
