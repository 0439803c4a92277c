package core_test

import (
	"fmt"
	"hash/fnv"
	"slices"
	"testing"

	"gaffer/api"
	"gaffer/core"
	"gaffer/coretest"
	"gaffer/logtest"
	"gaffer/msg"
)

// letter is a message under way.
type letter struct {
	from int
	post api.Post
}

// ballot is a vote: whose, in which Term.
type ballot struct {
	term uint64
	id   int
}

// group are replicas that start of nothing, what is under way between them, and all that was so once, by which is told whether what they do goes with the promises.
type group struct {
	t       *testing.T
	d       drawer
	first   []int
	rafts   []api.Raft // of the Ids 1, 2 and so on
	way     []letter
	leaders map[uint64]int // who led, by Term
	votes   map[ballot]int // for whom
	settled []api.Entry    // from Index 1 on
	snaps   []api.Snap     // what all make of what is settled up to each of them
	apart   []int          // who hears of nobody, and is heard of by nobody
	seen    map[string]int // what came how often
}

func newGroup(t *testing.T, seed int64, n int, first ...int) *group {
	g := &group{t: t, d: draws(seed), first: first, leaders: map[uint64]int{}, votes: map[ballot]int{}, seen: map[string]int{}}
	for id := 1; id <= n; id++ {
		r, why := core.New(id, first, api.Hard{}, api.Snap{}, nil, g.d.Intn(64))
		if why != api.OK {
			t.Fatalf("New: error %d", why)
		}
		g.rafts = append(g.rafts, r)
	}
	return g
}

func (g *group) raft(id int) api.Raft { return g.rafts[id-1] }

func (g *group) fail(id int, what string, now api.Raft) {
	g.t.Helper()
	g.t.Fatalf("%s: %s\nwas %s", what, coretest.Brief(now), coretest.Brief(g.raft(id)))
}

// step is what a replica becomes, and sends.
func (g *group) step(id int, now api.Raft, posts []api.Post) {
	g.t.Helper()
	was := g.raft(id)
	if core.Check(now) != api.OK || now.Id != id || !slices.Equal(now.First, g.first) {
		g.fail(id, "it is not right any more", now)
	}
	for _, p := range posts {
		if msg.Check(p.Msg) != api.OK || p.To == id || p.Msg.Term != now.Term {
			g.fail(id, "what it sends is not right: "+logtest.BriefMsg(p.Msg), now)
		}
		g.way = append(g.way, letter{id, p})
		if p.Msg.Kind == api.MsgInstall {
			g.seen["install"]++
		}
	}
	if now.Term < was.Term || now.Commit < was.Commit || now.Term == was.Term && was.Vote != 0 && now.Vote != was.Vote {
		g.fail(id, "it goes back", now)
	}
	for _, e := range now.Log.Entries {
		if e.Index > was.Log.Base && e.Index <= was.Commit && !logtest.SameEntry(e, was.Log.Entries[e.Index-was.Log.Base-1]) {
			g.fail(id, "what is settled is another one", now)
		}
	}
	if end(now) < end(was) {
		g.seen["shorter"]++
	}
	if now.Log.Base > was.Commit {
		g.seen["installed"]++
	}
	g.become(id, now)
}

func end(r api.Raft) uint64 { return r.Log.Base + uint64(len(r.Log.Entries)) }

// become holds what a replica is against what all of them were.
func (g *group) become(id int, now api.Raft) {
	g.t.Helper()
	if b := (ballot{now.Term, id}); now.Vote != 0 {
		if g.votes[b] != 0 && g.votes[b] != now.Vote {
			g.fail(id, "it votes twice", now)
		}
		g.votes[b] = now.Vote
	}
	for _, e := range now.Log.Entries[:now.Commit-now.Log.Base] {
		switch n := uint64(len(g.settled)); {
		case e.Index == n+1:
			g.settle(e)
		case !logtest.SameEntry(g.settled[e.Index-1], e):
			g.fail(id, "unlike entries are settled at one Index", now)
		}
	}
	if base := now.Log.Base; base > 0 && !logtest.SameSnap(now.Snap, g.snap(base)) {
		g.fail(id, "the snapshot is another one than "+logtest.BriefSnap(g.snap(base)), now)
	}
	if now.Role == api.RoleLead {
		g.elected(id, now)
	}
	g.rafts[id-1] = now
}

// elected holds that nobody else leads in that Term, and that it was voted for by a majority of the members that it had then.
func (g *group) elected(id int, now api.Raft) {
	g.t.Helper()
	if leader := g.leaders[now.Term]; leader == id {
		return
	} else if leader != 0 {
		g.fail(id, fmt.Sprint("leads, as does ", leader), now)
	}
	members, _, _ := core.Members(now)
	n := 0
	for _, m := range members {
		if g.votes[ballot{now.Term, m}] == id {
			n++
		}
	}
	if 2*n <= len(members) {
		g.fail(id, fmt.Sprint("leads, with votes of ", n, " of ", members), now)
	}
	g.leaders[now.Term] = id
}

// snap is the snapshot that all make of what is settled up to there.
func (g *group) snap(upto uint64) api.Snap { return g.snaps[upto-1] }

// settle is of the next entry: the Data of a snapshot hangs on each one up to there.
func (g *group) settle(e api.Entry) {
	s := api.Snap{Members: g.first}
	if n := len(g.snaps); n > 0 {
		s = g.snaps[n-1]
	}
	s.Index, s.Term = e.Index, e.Term
	if e.Kind == api.EntryMembers {
		s.Members = e.Members
	}
	h := fnv.New64a()
	fmt.Fprint(h, s.Data, e)
	s.Data = fmt.Sprintf("%d: %x", e.Index, h.Sum64())
	g.settled, g.snaps = append(g.settled, e), append(g.snaps, s)
}

func (g *group) tick(id, draw int) {
	g.t.Helper()
	now, posts, why := core.Tick(g.raft(id), draw)
	if why != api.OK {
		g.fail(id, fmt.Sprint("Tick: error ", why), now)
	}
	g.step(id, now, posts)
}

// give takes a letter out of those under way, or leaves it there to come once more.
func (g *group) give(at int, keep bool, draw int) {
	g.t.Helper()
	l := g.way[at]
	if !keep {
		g.way = slices.Delete(g.way, at, at+1)
	}
	now, posts, why := core.Take(g.raft(l.post.To), l.from, l.post.Msg, draw)
	if why != api.OK {
		g.fail(l.post.To, fmt.Sprint("Take: error ", why), now)
	}
	g.step(l.post.To, now, posts)
}

func (g *group) propose(id int, e api.Entry) {
	g.t.Helper()
	now, index, posts, why := core.Propose(g.raft(id), e)
	g.seen[fmt.Sprint("kind ", e.Kind, ", error ", why)]++
	if why != api.OK {
		return
	}
	if index != end(now) {
		g.fail(id, fmt.Sprint("Propose: Index ", index), now)
	}
	g.step(id, now, posts)
}

func (g *group) trim(id int) {
	g.t.Helper()
	r := g.raft(id)
	upto := r.Log.Base + g.d.upto(r.Commit-r.Log.Base)
	if upto == r.Log.Base {
		return
	}
	now, why := core.Trim(r, upto, g.snap(upto).Data)
	if why != api.OK {
		g.fail(id, fmt.Sprint("Trim: error ", why), now)
	}
	g.step(id, now, nil)
	g.seen["trimmed"]++
}

// rise starts a replica again of what it must not forget: what is settled it has to learn anew.
func (g *group) rise(id int) {
	g.t.Helper()
	r := g.raft(id)
	from := r.Log.Base - g.d.upto(min(r.Log.Base, 3))
	l := slices.Concat(g.settled[from:r.Log.Base], r.Log.Entries)
	now, why := core.New(id, g.first, api.Hard{Term: r.Term, Vote: r.Vote}, r.Snap, l, g.d.Intn(64))
	if why != api.OK || !logtest.SameLog(now.Log, r.Log) {
		g.fail(id, fmt.Sprint("New: error ", why), now)
	}
	g.become(id, now)
	g.seen["risen"]++
}

// chaos is a step of any kind; changes are those of members.
func (g *group) chaos(changes bool) {
	g.t.Helper()
	id := 1 + g.d.Intn(len(g.rafts))
	switch n := g.d.Intn(1000); {
	case n < 560 && len(g.way) > 0:
		at := g.d.Intn(min(len(g.way), 10)) // the first ones, mostly
		if g.d.one(4) {
			at = g.d.Intn(len(g.way))
		}
		if l := g.way[at]; slices.Contains(g.apart, l.from) || slices.Contains(g.apart, l.post.To) {
			g.lose(at)
			return
		}
		g.give(at, g.d.one(6), g.d.Intn(64))
	case n < 580 && len(g.way) > 0, len(g.way) > 100:
		g.lose(g.d.Intn(len(g.way)))
	case n < 750:
		for range g.d.Intn(16) {
			g.tick(id, g.d.Intn(64))
		}
	case n < 870:
		g.propose(id, api.Entry{Kind: api.EntryOrder, Data: fmt.Sprint("drawn ", g.d.Intn(1000))})
	case n < 950 && changes:
		now, _, _ := core.Members(g.raft(id))
		g.propose(id, api.Entry{Kind: api.EntryMembers, Members: g.d.nextOf(now, len(g.rafts))})
	case n < 975:
		g.trim(id)
	case n < 980:
		g.apart = g.d.ids(len(g.rafts))
	case n < 995:
		g.apart = nil
	default:
		g.rise(id)
	}
}

func (g *group) lose(at int) { g.way = slices.Delete(g.way, at, at+1) }

// nextOf is one more, or one fewer, of so many.
func (d drawer) nextOf(members []int, of int) []int {
	id := 1 + d.Intn(of)
	if at := slices.Index(members, id); at >= 0 {
		return slices.Delete(members, at, at+1)
	}
	members = append(members, id)
	slices.Sort(members)
	return members
}

// 16.7 to 16.10: groups of replicas whose messages come late, twice, in another order or never: no two lead in one Term, no two have settled unlike entries at one Index, nothing goes back.
func TestGroups(t *testing.T) {
	t.Parallel()
	seen := map[string]int{}
	for seed := range int64(120) {
		n := 2 + int(seed)%4
		first := [][]int{{1}, {1, 2}, {1, 2, 3}, {1, 2, 3, 4, 5}}[seed/4%4]
		g := newGroup(t, seed, n, first[:min(n, len(first))]...)
		for range 3000 {
			g.chaos(seed%2 == 1)
		}
		for what, many := range g.seen {
			seen[what] += many
		}
		seen["terms that somebody led in"] += len(g.leaders)
		seen["entries that are settled"] += len(g.settled)
	}
	for what, least := range map[string]int{
		"terms that somebody led in": 500, "entries that are settled": 4000, "trimmed": 2000, "risen": 900, "install": 2000, "installed": 100, "shorter": 15,
		"kind 2, error 0": 4000, "kind 2, error 16": 4000, "kind 3, error 0": 200, "kind 3, error 10": 200, "kind 3, error 12": 50,
	} {
		if seen[what] < least {
			t.Errorf("%s: only %d", what, seen[what])
		}
	}
}

// 16.10, as a whole (P10): when all goes well again, somebody leads, and all have settled the same.
func TestGroupsCalm(t *testing.T) {
	for seed := range int64(30) {
		n := 1 + int(seed)%5
		g := newGroup(t, 1000+seed, n, []int{1, 2, 3, 4, 5}[:n]...)
		for range 1000 {
			g.chaos(false)
		}
		rounds := 0
		for ; rounds < 400 && !g.agreed(); rounds++ {
			for many := len(g.way); many > 0; many-- {
				g.give(0, false, g.d.Intn(64))
			}
			for id := range n {
				g.tick(id+1, g.d.Intn(64))
			}
		}
		if rounds == 400 {
			t.Errorf("seed %d: %d replicas do not agree: %s", seed, n, coretest.Brief(g.raft(1)))
		}
	}
}

// agreed tells whether one leads whom all follow, and all have settled all that it has.
func (g *group) agreed() bool {
	lead := slices.IndexFunc(g.rafts, func(r api.Raft) bool { return r.Role == api.RoleLead })
	if lead < 0 {
		return false
	}
	for _, r := range g.rafts {
		if r.Term != g.rafts[lead].Term || r.Leader != lead+1 || r.Commit != end(g.rafts[lead]) || end(r) != r.Commit {
			return false
		}
	}
	return true
}
