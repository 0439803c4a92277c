// Package ledgertest is for tests alone: ledgers to ask a layer with, right ones and wrong ones, and what its answers are held against.
package ledgertest

import (
	"math"
	"strconv"
	"strings"

	"gaffer/api"
	"gaffer/booktest"
	"gaffer/ordertest"
)

const most = math.MaxUint64

// Some has a book with nodes, tasks and binds, and three clients.
func Some() api.Ledger {
	return api.Ledger{Book: booktest.Some(), Clients: []api.Client{
		{Id: 2, Seq: 3, Told: api.Told{Why: api.ErrTwice}},
		{Id: 5, Seq: 0, Told: api.Told{Text: "n"}},
		{Id: 1 << 40, Seq: 1 << 50},
	}}
}

// With is Some with a change.
func With(change func(l *api.Ledger)) api.Ledger {
	l := Clone(Some())
	change(&l)
	return l
}

// Full has as many clients as there may be: 10, 20 and so on.
func Full() api.Ledger {
	l := api.Ledger{Book: booktest.Full()}
	for i := range uint64(api.MaxClients) {
		l.Clients = append(l.Clients, api.Client{Id: 10 * (i + 1), Seq: i, Told: api.Told{Why: api.Errno(i), Text: strconv.Itoa(int(i))}})
	}
	return l
}

// Widest needs as many bytes as may be.
func Widest() api.Ledger {
	n, k := ordertest.Widest()
	k.Needs, k.Apart, k.Rank = [api.Kinds]int64{api.MaxAmount / 2, api.MaxAmount / 2, api.MaxAmount / 2}, "", 1000
	l := api.Ledger{Book: api.Book{Fence: most}}
	name := func(i int) string { return longest()[:api.MaxName-2] + strconv.Itoa(10+i) }
	for i := range api.MaxNodes {
		n.Name = name(i)
		l.Book.Nodes = append(l.Book.Nodes, n)
	}
	for i := range api.MaxTasks {
		k.Name = name(i)
		l.Book.Tasks = append(l.Book.Tasks, k)
		l.Book.Binds = append(l.Book.Binds, api.Bind{Task: k.Name, Node: name(i / 2)})
	}
	for i := range uint64(api.MaxClients) {
		l.Clients = append(l.Clients, api.Client{Id: most - api.MaxClients + 1 + i, Seq: most, Told: api.Told{Why: 255, Text: longest()}})
	}
	return Clone(l)
}

// Rights are ledgers at all edges.
func Rights() map[string]api.Ledger {
	list := map[string]api.Ledger{
		"nothing":                        {},
		"empty lists":                    {Clients: []api.Client{}},
		"some":                           Some(),
		"full":                           Full(),
		"widest":                         Widest(),
		"a client alone":                 {Clients: []api.Client{{Id: 1}}},
		"Ids that rise by one":           {Clients: []api.Client{{Id: 1}, {Id: 2}, {Id: 3}}},
		"Ids that rise, cut they do not": {Clients: []api.Client{{Id: 9}, {Id: 1 << 32}, {Id: 1<<63 + 1}, {Id: most}}},
		"Seqs that fall":                 {Clients: []api.Client{{Id: 1, Seq: most}, {Id: 2, Seq: 7}, {Id: 3, Seq: 7}, {Id: 4}}},
	}
	for what, b := range booktest.RightBooks() {
		list["a book: "+what] = api.Ledger{Book: b, Clients: Some().Clients}
	}
	for i, told := range ordertest.Tolds() {
		list["told "+strconv.Itoa(i)] = With(func(l *api.Ledger) { l.Clients[2].Told = told })
	}
	return list
}

// Wrongs are ledgers with a fault each.
func Wrongs() map[string]api.Ledger {
	list := map[string]api.Ledger{
		"too many clients":  With(func(l *api.Ledger) { l.Clients = append(Full().Clients, api.Client{Id: 90}) }),
		"far too many":      {Clients: make([]api.Client, 1<<16)},
		"no Id":             {Clients: []api.Client{{}}},
		"no Id, but a Seq":  {Clients: []api.Client{{Seq: 1}, {Id: 1}}},
		"no Id at the end":  With(func(l *api.Ledger) { l.Clients = append(l.Clients, api.Client{Seq: 1}) }),
		"an Id twice":       {Clients: []api.Client{{Id: 1}, {Id: 1, Seq: 1}}},
		"the last Id twice": With(func(l *api.Ledger) { l.Clients = append(l.Clients, l.Clients[2]) }),
		"Ids fall":          {Clients: []api.Client{{Id: 2}, {Id: 1}}},
		"the last Ids fall": With(func(l *api.Ledger) { l.Clients[1], l.Clients[2] = l.Clients[2], l.Clients[1] }),
		"great Ids fall":    {Clients: []api.Client{{Id: most}, {Id: 1 << 63}}},
		"an Id comes again": {Clients: []api.Client{{Id: 1}, {Id: 2}, {Id: 1}}},
	}
	for what, b := range booktest.WrongBooks() {
		list["a book: "+what] = api.Ledger{Book: b}
		list["a book, with clients: "+what] = api.Ledger{Book: b, Clients: Some().Clients}
	}
	for i, told := range ordertest.WrongTolds() {
		for at := range Some().Clients {
			list["told "+strconv.Itoa(i)+", client "+strconv.Itoa(at)] = With(func(l *api.Ledger) { l.Clients[at].Told = told })
		}
	}
	return list
}

func longest() string { return strings.Repeat("z", api.MaxName) }
