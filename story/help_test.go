package story_test

import (
	"math"
	"slices"
	"testing"

	"gaffer/api"
	"gaffer/ledgertest"
	"gaffer/logtest"
	"gaffer/memtest"
	"gaffer/ordertest"
	"gaffer/replicatest"
	"gaffer/story"
)

const most = math.MaxUint64

// Lists are put together of entries that have no Index as yet.

func row(l ...api.Entry) []api.Entry {
	l = slices.Clone(l)
	for i := range l {
		l[i].Index = uint64(i) + 1
	}
	return l
}

func lead(term uint64) api.Entry { return logtest.Lead(0, term) }

func members(list ...int) api.Entry { return logtest.Members(0, 1, list...) }

func text(data string) api.Entry { return logtest.Order(0, 1, data) }

func by(client, seq uint64, o api.Order) api.Entry { return replicatest.Order(0, 1, client, seq, o) }

func node(name string, has int64) api.Order {
	return api.Order{Kind: api.OrderNode, Node: api.Node{Name: name, Has: [api.Kinds]int64{has}}}
}

func task(name string, needs int64) api.Order {
	return api.Order{Kind: api.OrderTask, Task: api.Task{Name: name, Needs: [api.Kinds]int64{needs}}}
}

func bind(name, on string, fence uint64) api.Order {
	return api.Order{Kind: api.OrderBind, Name: name, On: on, Fence: fence}
}

func free(name string) api.Order { return ordertest.Named(api.OrderFree, name) }
func look(name string) api.Order { return ordertest.Named(api.OrderLook, name) }
func done(name string) api.Order { return ordertest.Named(api.OrderDone, name) }

func call(client, seq uint64) api.Event { return api.Event{Call: true, Client: client, Seq: seq} }

// told is an event of an answer, with no text.
func told(client, seq uint64, why api.Errno) api.Event {
	return api.Event{Client: client, Seq: seq, Told: api.Told{Why: why}}
}

// given are all lists that a call is handed, answer is all that it tells; what it has not is zero.
type given struct {
	L      []api.Entry
	Events []api.Event
}

type answer struct {
	State  api.Ledger
	Told   []api.Told
	Places []int
	N      int
	Why    api.Errno
}

func kindOfGiven() memtest.Kind[given] {
	return memtest.Kind[given]{Visit: func(v *memtest.Visitor, g *given) {
		logtest.VisitEntries(v, &g.L)
		memtest.Plain(v, &g.Events, func(n int) api.Event { return api.Event{Seq: uint64(n)} })
	}}
}

func kindOfAnswer() memtest.Kind[answer] {
	return memtest.Kind[answer]{
		Visit: func(v *memtest.Visitor, a *answer) {
			ledgertest.Visit(v, &a.State)
			memtest.Plain(v, &a.Told, func(n int) api.Told { return api.Told{Why: api.Errno(n)} })
			memtest.Plain(v, &a.Places, func(n int) int { return n })
		},
		Same: same,
	}
}

func same(a, b answer) bool {
	return ledgertest.Same(a.State, b.State) && slices.Equal(a.Told, b.Told) && slices.Equal(a.Places, b.Places) && a.N == b.N && a.Why == b.Why
}

// holds asks a call, and holds what it answers against what is to be; and 20.4 and P3: what is handed in stays as it was, the room behind its lists, too; asked again the answer is the same; and no two lists of all these share memory.
func holds(t *testing.T, what string, g given, call func(g given) answer, want answer) {
	t.Helper()
	got, wrong := memtest.Anew(g, kindOfGiven(), call, kindOfAnswer())
	if wrong != "" {
		t.Errorf("%s: %s", what, wrong)
	}
	if !same(got, want) {
		t.Errorf("%s: %s, told %v, places %v, %d, error %d; not %s, told %v, places %v, %d, error %d", what,
			ledgertest.Brief(got.State), brief(got.Told), brief(got.Places), got.N, got.Why,
			ledgertest.Brief(want.State), brief(want.Told), brief(want.Places), want.N, want.Why)
	}
}

func brief[T any](l []T) []T { return l[:min(9, len(l))] }

// The calls, each held against what is to be.

func folds(t *testing.T, what string, l []api.Entry, want answer) {
	t.Helper()
	holds(t, what, given{L: l}, func(g given) answer {
		state, told, why := story.Fold(g.L)
		return answer{State: state, Told: told, Why: why}
	}, want)
}

func stands(t *testing.T, what string, l []api.Entry, client, seq uint64, want answer) {
	t.Helper()
	holds(t, what, given{L: l}, func(g given) answer {
		places, why := story.Places(g.L, client, seq)
		return answer{Places: places, Why: why}
	}, want)
}

func judges(t *testing.T, what string, l []api.Entry, events []api.Event, want answer) {
	t.Helper()
	holds(t, what, given{l, events}, func(g given) answer {
		n, why := story.Judge(g.L, g.Events)
		return answer{N: n, Why: why}
	}, want)
}

func isFenced(t *testing.T, what string, l []api.Entry, want answer) {
	t.Helper()
	holds(t, what, given{L: l}, func(g given) answer {
		n, why := story.Fenced(g.L)
		return answer{N: n, Why: why}
	}, want)
}
