package story_test

import (
	"slices"
	"strconv"
	"testing"

	"gaffer/api"
	"gaffer/ledger"
	"gaffer/ledgertest"
	"gaffer/logtest"
	"gaffer/order"
	"gaffer/ordertest"
	"gaffer/replicatest"
)

// some is a list of entries of all kinds: what each is told stands beside it.
func some() []api.Entry {
	return row(
		lead(1),
		by(1, 1, node("n", 5)),      // 1: OK
		by(2, 1, task("a", 3)),      // 2: OK
		members(1, 2),               //
		by(1, 2, task("a", 3)),      // 4: ErrTwice
		lead(2),                     //
		by(0, 0, bind("a", "n", 1)), // 6: ErrFence
		by(0, 0, bind("a", "n", 2)), // 7: OK
		by(2, 7, look("a")),         // 8: OK, n
		text("?"),                   // 9: ErrForm
		by(2, 7, look("a")),         // 10: once more
		by(2, 7, done("a")),         // 11: another order of that number: told the same, and not done
		by(1, 1, node("n", 5)),      // 12: ErrStale
		by(2, 1, task("b", 1)),      // 13: ErrStale
		lead(2),
	)
}

func toldOfSome() []api.Told {
	told := make([]api.Told, 15)
	told[4].Why, told[6].Why, told[9].Why, told[12].Why, told[13].Why = api.ErrTwice, api.ErrFence, api.ErrForm, api.ErrStale, api.ErrStale
	told[8].Text, told[10].Text, told[11].Text = "n", "n", "n"
	return told
}

func stateOfSome() api.Ledger {
	return api.Ledger{
		Book: api.Book{
			Nodes: []api.Node{{Name: "n", Has: [api.Kinds]int64{5}}},
			Tasks: []api.Task{{Name: "a", Needs: [api.Kinds]int64{3}}},
			Binds: []api.Bind{{Task: "a", Node: "n"}},
			Fence: 2,
		},
		Clients: []api.Client{{Id: 1, Seq: 2, Told: api.Told{Why: api.ErrTwice}}, {Id: 2, Seq: 7, Told: api.Told{Text: "n"}}},
	}
}

// wrongs are lists that are not right.
func wrongs() map[string][]api.Entry {
	list := map[string][]api.Entry{
		"from 0 on":        {lead(1)},
		"from 0 on, two":   {lead(1), logtest.Lead(1, 1)},
		"from 2 on":        {logtest.Lead(2, 1)},
		"from 2 on, many":  some()[1:],
		"from 2^32 + 1 on": {logtest.Lead(1<<32+1, 1)},
		"the last of all":  {logtest.Lead(most, 1)},
		"twice":            {logtest.Lead(1, 1), logtest.Lead(1, 1)},
		"a leap":           {logtest.Lead(1, 1), logtest.Lead(3, 1)},
		"a great leap":     {logtest.Lead(1, 1), logtest.Lead(1<<32+2, 1)},
		"they fall":        {logtest.Lead(2, 1), logtest.Lead(1, 1)},
		"to 0":             {logtest.Lead(1, 1), logtest.Lead(0, 1)},
		"one is not there": slices.Delete(some(), 6, 7),
		"the last twice":   append(some(), some()[14]),
		"the last leaps":   append(some(), logtest.Lead(17, 2)),
	}
	for i, e := range logtest.WrongEntries() {
		n := strconv.Itoa(i)
		list["alone, "+n] = []api.Entry{e}
		for at := range some() {
			l := some()
			if e.Index > 0 {
				e.Index = uint64(at) + 1
			}
			l[at] = e
			list["at "+strconv.Itoa(at)+", "+n] = l
		}
	}
	return list
}

// odds are lists that are right, whatever their Terms are.
func odds() map[string][]api.Entry {
	list := map[string][]api.Entry{
		"Terms that fall": row(lead(9), lead(3), logtest.Order(0, 0, "?"), lead(0)),
		"great Terms":     row(lead(most), logtest.Order(0, most, "?"), lead(api.MaxNumber+1)),
		"members alone":   row(members(1), members(1, 2), members(1, 2), members(7)),
		"empty lists":     row(api.Entry{Kind: api.EntryLead, Members: []int{}}, api.Entry{Kind: api.EntryOrder, Members: []int{}}),
	}
	for i, e := range logtest.RightEntries() {
		list["one right entry, "+strconv.Itoa(i)] = row(e)
	}
	return list
}

// 20.1: all answer first that the list is not right, all else being zero, whatever else is wrong.
func TestWrongList(t *testing.T) {
	form := answer{Why: api.ErrForm}
	for what, l := range wrongs() {
		folds(t, what, l, form)
		isFenced(t, what, l, form)
		for _, events := range [][]api.Event{nil, {call(1, 1)}, {call(1, 1), told(1, 1, api.OK)}, {told(1, 1, api.OK)}} {
			judges(t, what, l, events, form)
		}
		for _, seq := range []uint64{0, 1, 99} {
			stands(t, what, l, seq, seq, form)
		}
	}
}

// 20.1: Fold: by hand.
func TestFold(t *testing.T) {
	folds(t, "nothing", nil, answer{})
	folds(t, "an empty list", []api.Entry{}, answer{})
	for n := range len(some()) + 1 {
		l := some()[:n]
		folds(t, strconv.Itoa(n)+" of some", l, answer{State: replicatest.Folded(api.Ledger{}, l...), Told: toldOfSome()[:n]})
	}
	folds(t, "some", some(), answer{State: stateOfSome(), Told: toldOfSome()})
	for what, l := range odds() {
		folds(t, what, l, modelFold(l))
	}
}

// 20.1: Fold: no command's Data does anything; what is told is ErrForm, and nobody is remembered.
func TestFoldNoCommand(t *testing.T) {
	form := api.Told{Why: api.ErrForm}
	for _, data := range ordertest.Broken(ordertest.CommandBytes(api.Command{Client: 2, Seq: 1, Order: task("b", 1)})) {
		l := row(append(slices.Clone(some()), text(data))...)
		folds(t, "broken", l, answer{State: stateOfSome(), Told: append(toldOfSome(), form)})
		stands(t, "broken", l, 2, 1, answer{Places: []int{2, 13}})
	}
	for i, c := range ordertest.WrongCommands() {
		if data := ordertest.CommandBytes(c); i%7 == 0 && len(data) <= 4096 {
			folds(t, "a wrong command", row(text(data)), answer{Told: []api.Told{form}})
			stands(t, "a wrong command", row(text(data)), c.Client, c.Seq, answer{})
		}
	}
}

// modelFold is what the chapter says, entry by entry.
func modelFold(l []api.Entry) answer {
	var a answer
	for _, e := range l {
		one := api.Told{}
		switch e.Kind {
		case api.EntryLead:
			a.State, _ = ledger.Lead(a.State, e.Term)
		case api.EntryOrder:
			a.State, one = ledger.Apply(a.State, e.Data)
		}
		a.Told = append(a.Told, one)
	}
	return a
}

// modelPlaces looks at one entry behind the other.
func modelPlaces(l []api.Entry, client, seq uint64) []int {
	var places []int
	for i, e := range l {
		if c, why := order.Decode(e.Data); e.Kind == api.EntryOrder && why == api.OK && c.Client == client && c.Seq == seq {
			places = append(places, i)
		}
	}
	return places
}

// 20.1: Places: by hand; of nobody's commands, too, and of those of one number that order something else.
func TestPlaces(t *testing.T) {
	for _, one := range []struct {
		client, seq uint64
		want        []int
	}{
		{0, 0, []int{6, 7}},
		{1, 1, []int{1, 12}},
		{1, 2, []int{4}},
		{2, 1, []int{2, 13}},
		{2, 7, []int{8, 10, 11}},
		{0, 1, nil}, {0, 7, nil}, {1, 0, nil}, {1, 7, nil}, {2, 0, nil}, {2, 2, nil}, {3, 1, nil}, {7, 2, nil},
		{1<<32 + 1, 1, nil}, {1, 1<<32 + 1, nil}, {most, most, nil},
	} {
		stands(t, "some", some(), one.client, one.seq, answer{Places: one.want})
		stands(t, "nothing", nil, one.client, one.seq, answer{})
	}
	for _, n := range []uint64{1, 255, 256, 1 << 32, 1<<32 + 1, 1 << 63, most} {
		l := row(by(n, n, look("a")), by(n, n-1, look("a")), by(1, n, look("a")), by(n, n, done("a")))
		for _, seq := range []uint64{0, 1, n - 1, n, n + 1} {
			for _, client := range []uint64{0, 1, n - 1, n} {
				stands(t, "great numbers", l, client, seq, answer{Places: modelPlaces(l, client, seq)})
			}
		}
	}
	for what, l := range odds() {
		stands(t, what, l, 0, 0, answer{})
	}
}

// 20.3: Fenced: a bind whose Fence is below, at and above the Term of a leader ahead of it, of nobody and of a client. It is told OK in the latter two alone.
func TestFenced(t *testing.T) {
	isFenced(t, "nothing", nil, answer{})
	isFenced(t, "some", some(), answer{N: 15})
	for what, l := range odds() {
		isFenced(t, what, l, answer{N: len(l)})
	}
	for client := range uint64(3) {
		for fence := range uint64(5) {
			l := row(by(1, 1, node("n", 5)), by(1, 2, task("a", 3)), by(client, 3*client, bind("a", "n", fence)), lead(3), lead(2), by(client, 4*client, free("a")), by(client, 5*client, bind("a", "n", fence)), by(client, 5*client, bind("a", "n", fence)))
			isFenced(t, "binds", l, answer{N: len(l)})
			want := api.Told{Why: api.ErrFence}
			if fence >= 3 {
				want = api.Told{}
			}
			if a := modelFold(l); a.Told[2].Why != api.OK || a.Told[6] != want {
				t.Errorf("fence %d: told is %v", fence, a.Told)
			}
		}
	}
}

// 20.3 and 20.6: a client's bind that comes again behind a leader of a greater Term is told OK, as it was, and that is no matter: it does nothing there.
func TestFencedAgain(t *testing.T) {
	l := row(lead(1), by(1, 1, node("n", 5)), by(1, 2, task("a", 3)), by(1, 3, bind("a", "n", 1)), lead(9), by(1, 3, bind("a", "n", 1)), by(1, 3, bind("a", "n", 0)))
	isFenced(t, "again", l, answer{N: 7})
	if a := modelFold(l); a.Told[5].Why != api.OK || a.Told[6].Why != api.OK || !ledgertest.Same(a.State, replicatest.Folded(api.Ledger{}, l[:5]...)) {
		t.Errorf("told is %v", a.Told)
	}
	looks := row(lead(1), by(1, 1, node("n", 5)), by(1, 2, task("a", 3)), by(1, 3, look("a")), lead(9), by(1, 3, bind("a", "n", 1)))
	isFenced(t, "the number of another order", looks, answer{N: 6})
	if a := modelFold(looks); a.Told[5].Why != api.OK {
		t.Errorf("told is %v", a.Told)
	}
}
