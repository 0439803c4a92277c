package ledgertest_test

import (
	"testing"

	"gaffer/api"
	"gaffer/ledger"
	"gaffer/ledgertest"
	"gaffer/memtest"
)

// What is said of ledgers is so.
func TestRightAndWrong(t *testing.T) {
	for what, l := range ledgertest.Rights() {
		if why := ledger.Check(l); why != api.OK {
			t.Errorf("right ledger %s: error %d", what, why)
		}
	}
	for what, l := range ledgertest.Wrongs() {
		if why := ledger.Check(l); why == api.OK {
			t.Errorf("wrong ledger %s is right", what)
		}
	}
}

// Each field counts, nil and empty lists are alike.
func TestSame(t *testing.T) {
	some := ledgertest.Some()
	if !ledgertest.Same(some, ledgertest.Clone(some)) || !ledgertest.Same(api.Ledger{}, api.Ledger{Clients: []api.Client{}}) {
		t.Error("what is alike is told to be another one")
	}
	for i, change := range []func(l *api.Ledger){
		func(l *api.Ledger) { l.Book.Fence++ },
		func(l *api.Ledger) { l.Book.Tasks[2].Rank++ },
		func(l *api.Ledger) { l.Clients = l.Clients[:2] },
		func(l *api.Ledger) { l.Clients[0].Id++ },
		func(l *api.Ledger) { l.Clients[1].Seq++ },
		func(l *api.Ledger) { l.Clients[2].Told.Why++ },
		func(l *api.Ledger) { l.Clients[2].Told.Text = "x" },
	} {
		if ledgertest.Same(ledgertest.With(change), some) {
			t.Errorf("change %d is not seen", i)
		}
	}
}

// All lists of a ledger are gone to.
func TestVisit(t *testing.T) {
	kind := memtest.Kind[api.Ledger]{Visit: ledgertest.Visit, Same: ledgertest.Same}
	with := func(change func(l, other *api.Ledger)) func(l api.Ledger) api.Ledger {
		return func(l api.Ledger) api.Ledger {
			other := ledgertest.Clone(l)
			change(&l, &other)
			return other
		}
	}
	if _, wrong := memtest.Anew(ledgertest.Some(), kind, with(func(l, other *api.Ledger) {}), kind); wrong != "" {
		t.Error(wrong)
	}
	for i, share := range []func(l, other *api.Ledger){
		func(l, other *api.Ledger) { other.Clients = l.Clients },
		func(l, other *api.Ledger) { other.Book.Nodes = l.Book.Nodes },
		func(l, other *api.Ledger) { other.Book.Tasks = l.Book.Tasks },
		func(l, other *api.Ledger) { other.Book.Binds = l.Book.Binds },
		func(l, other *api.Ledger) { other.Book.Nodes[1].Labels = l.Book.Nodes[1].Labels },
		func(l, other *api.Ledger) { other.Book.Nodes[1].Taints = l.Book.Nodes[1].Taints },
		func(l, other *api.Ledger) { other.Book.Tasks[1].Wants = l.Book.Tasks[1].Wants },
		func(l, other *api.Ledger) { other.Book.Tasks[1].Bears = l.Book.Tasks[1].Bears },
		func(l, other *api.Ledger) { other.Book.Tasks[1].Bears = other.Book.Tasks[2].Bears },
	} {
		if _, wrong := memtest.Anew(ledgertest.Some(), kind, with(share), kind); wrong != "two lists share memory" {
			t.Errorf("%d: %q", i, wrong)
		}
	}
}
