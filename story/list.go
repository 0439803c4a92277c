package story

import (
	"gaffer/api"
	"gaffer/ledger"
	"gaffer/order"
)

// name is by which a command is known: who has the same one calls the same command.
type name struct{ client, seq uint64 }

// saying is what a command is told.
type saying struct {
	name
	told api.Told
}

// All here is asked of right lists alone.

// fold tells what each entry is told, too.
func fold(l []api.Entry) (api.Ledger, []api.Told) {
	var state api.Ledger
	told := make([]api.Told, len(l))
	for i, e := range l {
		switch e.Kind {
		case api.EntryLead:
			state, _ = ledger.Lead(state, e.Term) // what is folded is right
		case api.EntryOrder:
			state, told[i] = ledger.Apply(state, e.Data)
		}
	}
	return state, told
}

// commandsOf are what stands at each place: one of no kind, where there is none.
func commandsOf(l []api.Entry) []api.Command {
	commands := make([]api.Command, len(l))
	for i, e := range l {
		commands[i], _ = order.Decode(e.Data) // only an order's entry has any
	}
	return commands
}

func isNone(c api.Command) bool { return c.Order.Kind == api.OrderNone }

// placesOf are those at which each command stands, rising.
func placesOf(commands []api.Command) map[name][]int {
	places := map[name][]int{}
	for i, c := range commands {
		if !isNone(c) {
			n := nameOf(c)
			places[n] = append(places[n], i)
		}
	}
	return places
}

func nameOf(c api.Command) name { return name{c.Client, c.Seq} }

// sayingsOf are the first places at which each command is told something.
func sayingsOf(commands []api.Command, told []api.Told) map[saying]int {
	said := map[saying]int{}
	for i, c := range commands {
		s := saying{nameOf(c), told[i]}
		if _, there := said[s]; !there && !isNone(c) {
			said[s] = i
		}
	}
	return said
}

// fenced is what Fenced tells of a list, and of what its entries are told. A client's command that comes again does nothing, whatever it is told.
func fenced(l []api.Entry, told []api.Told) (int, api.Errno) {
	commands := commandsOf(l)
	places := placesOf(commands)
	var term uint64 // the greatest of those who lead so far
	for i, c := range commands {
		if l[i].Kind == api.EntryLead {
			term = max(term, l[i].Term)
		}
		isBind := c.Order.Kind == api.OrderBind && told[i].Why == api.OK
		if isBind && c.Order.Fence < term && (c.Client == 0 || places[nameOf(c)][0] == i) {
			return i, api.ErrFence
		}
	}
	return len(l), api.OK
}
