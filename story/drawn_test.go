package story_test

import (
	"fmt"
	"math/rand"
	"slices"
	"testing"

	"gaffer/api"
	"gaffer/ledger"
	"gaffer/ledgertest"
	"gaffer/order"
	"gaffer/ordertest"
	"gaffer/story"
)

// drawer draws lists, and what clients may have seen of them.
type drawer struct{ *rand.Rand }

// list has entries of all kinds, of few names; leaders' Terms rise, mostly, and binds have Fences of about as much.
func (d drawer) list() []api.Entry {
	var l []api.Entry
	term := uint64(0)
	var seqs [11]uint64
	for range d.Intn(70) {
		switch n := d.Intn(30); {
		case n < 3:
			term += uint64(d.Intn(3))
			l = append(l, lead(term-min(term, uint64(d.Intn(5)/4))))
		case n < 4:
			l = append(l, members(1, 2))
		case n < 5:
			broken := ordertest.Broken(ordertest.CommandBytes(api.Command{Client: 1, Seq: 2, Order: look("a")}))
			l = append(l, text(broken[d.Intn(len(broken))]))
		default:
			client := d.Intn(2 + d.Intn(10))
			seq := &seqs[client]
			switch d.Intn(6) {
			case 0:
				*seq -= min(*seq, 1)
			case 1, 2:
			default:
				*seq++
			}
			if client == 0 {
				*seq = 0
			}
			l = append(l, by(uint64(client), *seq, d.order(term)))
		}
	}
	return row(l...)
}

func (d drawer) order(term uint64) api.Order {
	n, k := fmt.Sprint("n", d.Intn(2)), fmt.Sprint("t", d.Intn(3))
	return []api.Order{
		node(n, 4), task(k, int64(d.Intn(3))), bind(k, n, term), bind(k, n, term-min(term, 1)), bind(k, n, term+1), free(k), look(k), look(k), done(k), task(k, 1),
	}[d.Intn(10)]
}

// story is what clients may have seen of a list: each calls ahead of where its command stands, and is answered later, or never.
func (d drawer) story(l []api.Entry) []api.Event {
	var events, late []api.Event
	said := modelFold(l).Told
	for i, e := range l {
		c, why := order.Decode(e.Data)
		if e.Kind != api.EntryOrder || why != api.OK {
			continue
		}
		call := api.Event{Call: true, Client: c.Client, Seq: c.Seq}
		if d.Intn(4) == 0 || !slices.Contains(events, call) {
			events = append(events, call)
		}
		if d.Intn(3) > 0 {
			late = append(late, api.Event{Client: c.Client, Seq: c.Seq, Told: said[i]})
		}
		for len(late) > 0 && d.Intn(3) > 0 {
			at := d.Intn(len(late))
			events, late = append(events, late[at]), slices.Delete(late, at, at+1)
		}
	}
	return events
}

// spoilt is a story of which something is another one, mostly not so that it goes with the list.
func (d drawer) spoilt(events []api.Event) []api.Event {
	events = slices.Clone(events)
	if len(events) < 2 {
		return events
	}
	a, b := d.Intn(len(events)), d.Intn(len(events))
	switch d.Intn(6) {
	case 0:
		events[a], events[b] = events[b], events[a]
	case 1:
		events = slices.Delete(events, a, a+1)
	case 2:
		events[a].Told = events[b].Told
	case 3:
		events[a].Told.Why = api.Errno(d.Intn(19))
	case 4:
		events[a].Seq = events[b].Seq
	default:
		e := events[a]
		events = slices.Insert(slices.Delete(events, a, a+1), b, e)
		b = min(b, len(events)-1)
		events[b].Call = events[b].Call || d.Intn(2) == 0
	}
	return events
}

// modelJudge is what the chapter says, each event held against all that are ahead of it, and all places.
func modelJudge(l []api.Entry, events []api.Event) (int, api.Errno) {
	said := modelFold(l).Told
	var settled []int // where each event is
	for _, e := range events {
		places := modelPlaces(l, e.Client, e.Seq)
		at := slices.IndexFunc(places, func(p int) bool { return e.Call || said[p] == e.Told })
		settled = append(settled, slices.Concat([]int{-1}, places)[at+1])
	}
	for i, e := range events {
		called := slices.ContainsFunc(events[:i], func(x api.Event) bool { return x.Call && x.Client == e.Client && x.Seq == e.Seq })
		if !e.Call && (!called || settled[i] < 0) {
			return i, api.ErrOrder
		}
		for j, x := range events[:i] {
			if e.Call && !called && settled[i] >= 0 && !x.Call && settled[i] <= settled[j] {
				return i, api.ErrOrder
			}
		}
	}
	return len(events), api.OK
}

// 20.1 to 20.3, of lists and events that are drawn: Fold, Places and Judge are as the chapter's words have them; and 20.5: Fenced finds none.
func TestDrawn(t *testing.T) {
	t.Parallel()
	d := drawer{rand.New(rand.NewSource(20))}
	seen := map[string]int{}
	for range 1500 {
		l := d.list()
		folds(t, "drawn", l, modelFold(l))
		isFenced(t, "drawn", l, answer{N: len(l)})
		client, seq := uint64(d.Intn(10)), uint64(d.Intn(4))
		stands(t, "drawn", l, client, seq, answer{Places: modelPlaces(l, client, seq)})
		events := d.story(l)
		judges(t, "drawn", l, events, answer{N: len(events)})
		seen["events"] += len(events)
		for range 3 {
			events = d.spoilt(events)
			n, why := modelJudge(l, events)
			judges(t, "spoilt", l, events, answer{N: n, Why: why})
			seen[fmt.Sprint("error ", why)]++
			if why != api.OK {
				seen[fmt.Sprint("a call: ", events[n].Call)]++
			}
		}
		for _, one := range modelFold(l).Told {
			seen[fmt.Sprint("told ", one.Why)]++
		}
	}
	for what, least := range map[string]int{"events": 20000, "error 0": 500, "error 17": 1000, "a call: true": 150, "a call: false": 800, "told 0": 8000, "told 11": 50, "told 14": 300, "told 15": 1000, "told 4": 500} {
		if seen[what] < least {
			t.Errorf("%s: only %d", what, seen[what])
		}
	}
}

// 20.6: a client's command that stands at several places is told the same there, or of long ago; it changes the ledger at the first one at most.
func TestOnce(t *testing.T) {
	t.Parallel()
	d := drawer{rand.New(rand.NewSource(206))}
	many, stale := 0, 0
	for range 400 {
		l := d.list()
		states := []api.Ledger{{}}
		for n := range l {
			state, _, why := story.Fold(l[:n+1])
			if why != api.OK {
				t.Fatalf("error %d", why)
			}
			states = append(states, state)
		}
		_, said, _ := story.Fold(l)
		for client := uint64(1); client < 11; client++ {
			for seq := range uint64(12) {
				places, _ := story.Places(l, client, seq)
				for _, p := range places[min(1, len(places)):] {
					many++
					if said[p].Why == api.ErrStale {
						stale++
					}
					if said[p] != said[places[0]] && said[p] != (api.Told{Why: api.ErrStale}) {
						t.Errorf("told %v, then %v", said[places[0]], said[p])
					}
					if !ledgertest.Same(states[p], states[p+1]) {
						t.Errorf("done again: %s; then %s", ledgertest.Brief(states[p]), ledgertest.Brief(states[p+1]))
					}
				}
			}
		}
		if len(l) > 0 && ledger.Check(states[len(l)]) != api.OK {
			t.Errorf("the ledger is not right: %s", ledgertest.Brief(states[len(l)]))
		}
	}
	if many < 1500 || stale < 200 || many-stale < 200 {
		t.Errorf("only %d came again, %d of them of long ago", many, stale)
	}
}

// 20.7: what goes with a list goes with a longer one.
func TestPrefix(t *testing.T) {
	t.Parallel()
	d := drawer{rand.New(rand.NewSource(207))}
	went := 0
	for range 600 {
		l := d.list()
		first := l[:d.Intn(len(l)+1)]
		events := d.story(first)
		if d.Intn(2) == 0 {
			events = d.spoilt(events)
		}
		n, why := story.Judge(first, events)
		if why != api.OK {
			continue
		}
		went++
		for more := len(first); more <= len(l); more++ {
			if got, no := story.Judge(l[:more], events); no != api.OK || got != n {
				t.Errorf("of %d entries %d go; of %d only %d, error %d", len(first), n, more, got, no)
			}
		}
	}
	if went < 300 {
		t.Errorf("only %d went", went)
	}
}
