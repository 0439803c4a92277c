package world_test

import (
	"fmt"
	"slices"
	"sync"
	"testing"

	"gaffer/api"
	"gaffer/booktest"
	"gaffer/ledgertest"
	"gaffer/order"
	"gaffer/sched"
	"gaffer/story"
)

// whole holds what was done and seen in all against story, and against P7 and P8.
func (h *history) whole() {
	h.t.Helper()
	state, tolds, why := story.Fold(h.list)
	if why != api.OK || !slices.Equal(tolds, h.tolds) || !ledgertest.Same(state, h.states[len(h.list)]) {
		h.fail("the list is folded to something else: error ", why)
	}
	if n, why := story.Judge(h.list, h.events); n != len(h.events) || why != api.OK {
		h.fail("what clients saw does not go with the list: ", n, " of ", len(h.events), ", error ", why)
	}
	if n, why := story.Fenced(h.list); n != len(h.list) || why != api.OK {
		h.fail("a bind is not fenced: ", n, ", error ", why)
	}
	h.once()
}

// once holds P7, and that a command does something once at most, and is told the same again, or of long ago (P8).
func (h *history) once() {
	h.t.Helper()
	type name struct{ client, seq uint64 }
	done, first := map[name]int{}, map[name]api.Told{}
	var term uint64
	for i, e := range h.list {
		if e.Kind == api.EntryLead {
			term = max(term, e.Term)
		}
		c, why := order.Decode(e.Data)
		if e.Kind != api.EntryOrder || why != api.OK {
			continue
		}
		changes := !booktest.Same(h.states[i].Book, h.states[i+1].Book)
		if changes && c.Order.Kind == api.OrderBind && c.Order.Fence < term {
			h.fail("a bind of fence ", c.Order.Fence, " is done behind a leader of Term ", term)
		}
		n := name{c.Client, c.Seq}
		told, again := first[n]
		switch {
		case c.Client == 0:
			continue // of nobody: it may be done again
		case !again:
			first[n] = h.tolds[i]
		case h.tolds[i] != told && h.tolds[i].Why != api.ErrStale:
			h.fail("told ", told, ", then ", h.tolds[i])
		default:
			h.seen["again"]++
		}
		if changes {
			done[n]++
		}
		if done[n] > 1 {
			h.fail("the command ", n, " is done twice")
		}
	}
}

// counts are what came how often in all histories of a test.
type counts struct {
	sync.Mutex
	seen map[string]int
}

func (c *counts) add(h *history) {
	c.Lock()
	defer c.Unlock()
	if c.seen == nil {
		c.seen = map[string]int{}
	}
	for what, many := range h.seen {
		c.seen[what] += many
	}
	c.seen["terms that somebody led in"] += len(h.leaders)
	c.seen["entries"] += len(h.list)
}

func (c *counts) atLeast(t *testing.T, list map[string]int) {
	t.Helper()
	for what, least := range list {
		if c.seen[what] < least {
			t.Errorf("%s: only %d", what, c.seen[what])
		}
	}
}

// ids are 1, 2 and so on.
func ids(n int) []int { return []int{1, 2, 3, 4, 5, 6, 7}[:n] }

// 19.5 to 19.7, and P5 to P9: worlds of 1 to 7 replicas, to which anything happens.
func TestWhateverHappens(t *testing.T) {
	var all counts
	t.Run("worlds", func(t *testing.T) {
		for seed := range int64(84) {
			t.Run(fmt.Sprint(seed), func(t *testing.T) {
				t.Parallel()
				n := 1 + int(seed)%7
				h := newHistory(t, seed, n, ids(max(1, n-int(seed)/7%3))...)
				for range 2000 {
					if seed%3 == 0 && h.d.Intn(6) == 0 {
						h.storm()
					}
					h.chaos(seed/7%2 == 1)
				}
				h.whole()
				all.add(h)
			})
		}
	})
	all.atLeast(t, map[string]int{
		"terms that somebody led in": 300, "entries": 3000, "binds": 5000, "answers": 1500, "trimmed": 200, "installed": 5, "members": 20, "again": 100,
		"told 0": 1000, "told 7": 100, "told 14": 10, "told 15": 50,
		"kind 0, error 4": 10, "kind 1, error 0": 20000, "kind 1, error 8": 1000, "kind 2, error 0": 10000, "kind 2, error 8": 50, "kind 3, error 0": 1000, "kind 4, error 0": 1000,
		"kind 5, error 0": 200, "kind 5, error 8": 50, "kind 6, error 0": 100, "kind 6, error 8": 50, "kind 7, error 0": 300, "kind 7, error 10": 300,
		"kind 8, error 0": 2000, "kind 8, error 8": 100, "kind 8, error 16": 1000, "kind 9, error 0": 20, "kind 9, error 1": 1, "kind 9, error 10": 5,
	})
}

// power has all fall, and rise with nothing kept that was not synced.
func (h *history) power() {
	h.t.Helper()
	h.apart = nil
	for i := range h.w.Slots {
		h.do(api.WorldStep{Kind: api.WorldFall, Who: i + 1})
		if why := h.do(api.WorldStep{Kind: api.WorldRise, Who: i + 1, Draw: h.d.Intn(64)}); why != api.OK {
			h.fail("it does not rise: error ", why)
		}
	}
}

// agreed tells whether one leads whom all follow, all have done all that it has, and no task that waits can be anywhere.
func (h *history) agreed() bool {
	who := leaderOf(h.w)
	if who == 0 {
		return false
	}
	leader := h.w.Slots[who-1].Replica
	for _, s := range h.w.Slots {
		if r := s.Replica.Raft; r.Leader != who || r.Term != leader.Raft.Term || s.Replica.Done != leader.Raft.Log.Base+uint64(len(leader.Raft.Log.Entries)) {
			return false
		}
	}
	quiet, why := sched.Quiet(leader.Ledger.Book)
	return quiet && why == api.OK
}

// least are draws by which one whose log no other's is ahead of waits least; the others wait so much longer.
func (h *history) least(longer int) []int {
	ahead := func(a, b api.Raft) bool {
		ta, tb := lastTerm(a), lastTerm(b)
		return ta > tb || ta == tb && a.Log.Base+uint64(len(a.Log.Entries)) > b.Log.Base+uint64(len(b.Log.Entries))
	}
	best := 0
	for i, s := range h.w.Slots {
		if ahead(s.Replica.Raft, h.w.Slots[best].Replica.Raft) {
			best = i
		}
	}
	draws := slices.Repeat([]int{longer}, len(h.w.Slots))
	draws[best] = 0
	return draws
}

func lastTerm(r api.Raft) uint64 {
	if len(r.Log.Entries) == 0 {
		return r.Log.BaseTerm
	}
	return r.Log.Entries[len(r.Log.Entries)-1].Term
}

// 19.8 and P10, and P9: whatever happened, but for a change of members, in the end somebody leads, all have done the same, and no task that waits can be anywhere; and what was done before is there, though all fell and rose.
func TestCalmEnd(t *testing.T) {
	var all counts
	t.Run("worlds", func(t *testing.T) {
		for seed := range int64(42) {
			t.Run(fmt.Sprint(seed), func(t *testing.T) {
				t.Parallel()
				n := 1 + int(seed)%7
				h := newHistory(t, 1000+seed, n, ids(n)...)
				for range 400 {
					h.chaos(false)
				}
				done, seen := len(h.list), len(h.events)
				h.power()
				rounds := 0
				for draws := h.least([]int{1, 20, 63}[seed/7%3]); rounds < 400 && !h.agreed(); rounds++ {
					h.round(draws...)
				}
				if !h.agreed() || len(h.list) < done {
					h.fail("they do not agree behind ", rounds, " rounds; ", len(h.list), " of ", done, " entries are there")
				}
				h.whole()
				if seen < len(h.events) {
					t.Errorf("%d are answered who were forgotten", len(h.events)-seen)
				}
				all.add(h)
			})
		}
	})
	all.atLeast(t, map[string]int{"entries": 800, "answers": 300, "binds": 1000})
}
