package ledger_test

import (
	"math"
	"slices"
	"strconv"
	"strings"
	"testing"

	"gaffer/api"
	"gaffer/booktest"
	"gaffer/ledger"
	"gaffer/ordertest"
)

const most = math.MaxUint64

var longest = strings.Repeat("z", api.MaxName)

// some has a book with nodes, tasks and binds, and three clients.
func some() api.Ledger {
	return api.Ledger{Book: booktest.Some(), Clients: []api.Client{
		{Id: 2, Seq: 3, Told: api.Told{Why: api.ErrTwice}},
		{Id: 5, Seq: 0, Told: api.Told{Text: "n"}},
		{Id: 1 << 40, Seq: 1 << 50},
	}}
}

// with is some with a change.
func with(change func(l *api.Ledger)) api.Ledger {
	l := clone(some())
	change(&l)
	return l
}

// full has as many clients as there may be: 10, 20 and so on.
func full() api.Ledger {
	l := api.Ledger{Book: booktest.Full()}
	for i := range uint64(api.MaxClients) {
		l.Clients = append(l.Clients, api.Client{Id: 10 * (i + 1), Seq: i, Told: api.Told{Why: api.Errno(i), Text: strconv.Itoa(int(i))}})
	}
	return l
}

// widest needs as many bytes as may be.
func widest() api.Ledger {
	n, k := ordertest.Widest()
	k.Needs, k.Apart, k.Rank = [api.Kinds]int64{api.MaxAmount / 2, api.MaxAmount / 2, api.MaxAmount / 2}, "", 1000
	l := api.Ledger{Book: api.Book{Fence: most}}
	name := func(i int) string { return longest[:api.MaxName-2] + strconv.Itoa(10+i) }
	for i := range api.MaxNodes {
		n.Name = name(i)
		l.Book.Nodes = append(l.Book.Nodes, n)
	}
	for i := range api.MaxTasks {
		k.Name = name(i)
		l.Book.Tasks = append(l.Book.Tasks, k)
		l.Book.Binds = append(l.Book.Binds, api.Bind{Task: k.Name, Node: name(i / 2)})
	}
	for i := range uint64(api.MaxClients) {
		l.Clients = append(l.Clients, api.Client{Id: most - api.MaxClients + 1 + i, Seq: most, Told: api.Told{Why: 255, Text: longest}})
	}
	return clone(l)
}

// rights are ledgers at all edges.
func rights() map[string]api.Ledger {
	list := map[string]api.Ledger{
		"nothing":                        {},
		"empty lists":                    {Clients: []api.Client{}},
		"some":                           some(),
		"full":                           full(),
		"widest":                         widest(),
		"a client alone":                 {Clients: []api.Client{{Id: 1}}},
		"Ids that rise by one":           {Clients: []api.Client{{Id: 1}, {Id: 2}, {Id: 3}}},
		"Ids that rise, cut they do not": {Clients: []api.Client{{Id: 9}, {Id: 1 << 32}, {Id: 1<<63 + 1}, {Id: most}}},
		"Seqs that fall":                 {Clients: []api.Client{{Id: 1, Seq: most}, {Id: 2, Seq: 7}, {Id: 3, Seq: 7}, {Id: 4}}},
	}
	for what, b := range booktest.RightBooks() {
		list["a book: "+what] = api.Ledger{Book: b, Clients: some().Clients}
	}
	for i, told := range ordertest.Tolds() {
		list["told "+strconv.Itoa(i)] = with(func(l *api.Ledger) { l.Clients[2].Told = told })
	}
	return list
}

// wrongs are ledgers with a fault each.
func wrongs() map[string]api.Ledger {
	list := map[string]api.Ledger{
		"too many clients":  with(func(l *api.Ledger) { l.Clients = append(full().Clients, api.Client{Id: 90}) }),
		"far too many":      {Clients: make([]api.Client, 1<<16)},
		"no Id":             {Clients: []api.Client{{}}},
		"no Id, but a Seq":  {Clients: []api.Client{{Seq: 1}, {Id: 1}}},
		"no Id at the end":  with(func(l *api.Ledger) { l.Clients = append(l.Clients, api.Client{Seq: 1}) }),
		"an Id twice":       {Clients: []api.Client{{Id: 1}, {Id: 1, Seq: 1}}},
		"the last Id twice": with(func(l *api.Ledger) { l.Clients = append(l.Clients, l.Clients[2]) }),
		"Ids fall":          {Clients: []api.Client{{Id: 2}, {Id: 1}}},
		"the last Ids fall": with(func(l *api.Ledger) { l.Clients[1], l.Clients[2] = l.Clients[2], l.Clients[1] }),
		"great Ids fall":    {Clients: []api.Client{{Id: most}, {Id: 1 << 63}}},
		"an Id comes again": {Clients: []api.Client{{Id: 1}, {Id: 2}, {Id: 1}}},
	}
	for what, b := range booktest.WrongBooks() {
		list["a book: "+what] = api.Ledger{Book: b}
		list["a book, with clients: "+what] = api.Ledger{Book: b, Clients: some().Clients}
	}
	for i, told := range ordertest.WrongTolds() {
		for at := range some().Clients {
			list["told "+strconv.Itoa(i)+", client "+strconv.Itoa(at)] = with(func(l *api.Ledger) { l.Clients[at].Told = told })
		}
	}
	return list
}

// same takes nil and empty lists for alike.
func same(a, b api.Ledger) bool {
	return booktest.Same(a.Book, b.Book) && slices.Equal(a.Clients, b.Clients)
}

func clone(l api.Ledger) api.Ledger {
	return api.Ledger{Book: booktest.Clone(l.Book), Clients: slices.Clone(l.Clients)}
}

// brief is few words on l, however much is there.
func brief(l api.Ledger) string {
	s := booktest.Brief(l.Book) + ", " + strconv.Itoa(len(l.Clients)) + " clients"
	for _, c := range l.Clients[:min(len(l.Clients), api.MaxClients)] {
		s += " " + strconv.FormatUint(c.Id, 10) + ":" + strconv.FormatUint(c.Seq, 10) + ":" + strconv.Itoa(int(c.Told.Why)) + ":" + strconv.Quote(c.Told.Text)
	}
	return s
}

// bytesOf does what the chapter says of any ledger, right or not.
func bytesOf(l api.Ledger) ordertest.Bytes {
	var b ordertest.Bytes
	b.Number(l.Book.Fence)
	b.Number(uint64(len(l.Book.Nodes)))
	for _, n := range l.Book.Nodes {
		b.Node(n)
	}
	b.Number(uint64(len(l.Book.Tasks)))
	for _, t := range l.Book.Tasks {
		b.Task(t)
	}
	b.Number(uint64(len(l.Book.Binds)))
	for _, on := range l.Book.Binds {
		b.Text(on.Task)
		b.Text(on.Node)
	}
	b.Number(uint64(len(l.Clients)))
	for _, c := range l.Clients {
		b.Number(c.Id)
		b.Number(c.Seq)
		b.Told(c.Told)
	}
	return b
}

func command(client, seq uint64, o api.Order) string {
	return ordertest.CommandBytes(api.Command{Client: client, Seq: seq, Order: o})
}

func task(name string) api.Order { return api.Order{Kind: api.OrderTask, Task: api.Task{Name: name}} }
func done(name string) api.Order { return ordertest.Named(api.OrderDone, name) }
func free(name string) api.Order { return ordertest.Named(api.OrderFree, name) }
func look(name string) api.Order { return ordertest.Named(api.OrderLook, name) }

func bind(name, on string, fence uint64) api.Order {
	return api.Order{Kind: api.OrderBind, Name: name, On: on, Fence: fence}
}

// applies holds what becomes of l, and what is told, against what is to be; l is to stay as it was.
func applies(t *testing.T, what string, l api.Ledger, data string, want api.Ledger, told api.Told) {
	t.Helper()
	given := clone(l)
	got, says := ledger.Apply(given, data)
	if says != told {
		t.Errorf("%s: told is %v, not %v", what, says, told)
	}
	if !same(got, want) {
		t.Errorf("%s: %s; not %s", what, brief(got), brief(want))
	}
	if !same(given, l) {
		t.Errorf("%s: what was handed in is changed", what)
	}
}

// refuses is of what does nothing: l stays as it was.
func refuses(t *testing.T, what string, l api.Ledger, data string, told api.Told) {
	t.Helper()
	applies(t, what, l, data, l, told)
}
