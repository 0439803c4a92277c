package replica_test

import (
	"fmt"
	"math/rand"
	"slices"
	"testing"

	"gaffer/api"
	"gaffer/disk"
	"gaffer/disktest"
	"gaffer/ledgertest"
	"gaffer/logtest"
	"gaffer/net"
	"gaffer/order"
	"gaffer/ordertest"
	"gaffer/replica"
	"gaffer/replicatest"
)

// member is a replica of a group. Of one that is down was is what it was last, and would what it would have become, had the power not gone within a step.
type member struct {
	up    bool
	x     api.Replica
	was   api.Raft
	would api.Raft
}

// ballot is a vote: whose, in which Term.
type ballot struct {
	term uint64
	id   int
}

// group are replicas that start of nothing, the net between them, and all that was so once, by which is told whether what they do goes with the promises.
type group struct {
	t       *testing.T
	d       *rand.Rand
	first   []int
	members []member // of the Ids 1, 2 and so on
	net     api.Net
	settled []api.Entry  // from Index 1 on
	states  []api.Ledger // what nothing, and each entry behind it, makes
	tolds   []api.Told   // what each entry is told
	leaders map[uint64]int
	votes   map[ballot]int
	apart   []int             // who hears of nobody, and is heard of by nobody
	seqs    map[uint64]uint64 // the last command of each client
	seen    map[string]int    // what came how often
}

func newGroup(t *testing.T, seed int64, n int, first ...int) *group {
	g := &group{t: t, d: rand.New(rand.NewSource(seed)), first: first, states: []api.Ledger{{}}, leaders: map[uint64]int{}, votes: map[ballot]int{}, seqs: map[uint64]uint64{}, seen: map[string]int{}}
	for id := 1; id <= n; id++ {
		x, why := replica.Start(id, first, disktest.Of(), g.d.Intn(64))
		if why != api.OK {
			t.Fatalf("Start: error %d", why)
		}
		g.members = append(g.members, member{up: true, x: x})
	}
	return g
}

func (g *group) fail(id int, what string, x api.Replica) {
	g.t.Helper()
	g.t.Fatalf("%d: %s: %s\nwas %s", id, what, brief(x), brief(g.members[id-1].x))
}

// settle is of what a replica has settled: all of them settle one list, and their states are what it makes.
func (g *group) settle(x api.Replica) {
	g.t.Helper()
	for _, e := range x.Raft.Log.Entries[:x.Raft.Commit-x.Raft.Log.Base] {
		switch n := uint64(len(g.settled)); {
		case e.Index == n+1:
			g.settled = append(g.settled, e)
			l, told := g.states[n], api.Told{}
			l, told = applied(l, e)
			g.states, g.tolds = append(g.states, l), append(g.tolds, told)
		case !logtest.SameEntry(g.settled[e.Index-1], e):
			g.fail(x.Id, "unlike entries are settled at one Index", x)
		}
	}
	if !ledgertest.Same(x.Ledger, g.states[x.Done]) {
		g.fail(x.Id, "its state is another one than "+ledgertest.Brief(g.states[x.Done]), x)
	}
	if base := x.Raft.Log.Base; base > g.members[x.Id-1].x.Raft.Log.Base && x.Raft.Snap.Data != packed(g.states[base]) {
		g.fail(x.Id, "its snapshot is of another state", x)
	}
}

// applied is what an entry makes, and is told.
func applied(l api.Ledger, e api.Entry) (api.Ledger, api.Told) {
	x := api.Replica{Ledger: l, Raft: api.Raft{Log: api.Log{Base: e.Index - 1, Entries: []api.Entry{e}}, Commit: e.Index}, Done: e.Index - 1, Waits: []api.Wait{{Index: e.Index, Term: e.Term}}}
	return x.Ledger, does(&x)[0].Told
}

// become is of a replica that is right: no vote is given twice, nobody leads in a Term in which another one does.
func (g *group) become(id int, x api.Replica) {
	g.t.Helper()
	r := x.Raft
	if why := replica.Check(x); why != api.OK || x.Id != id || !slices.Equal(r.First, g.first) {
		g.fail(id, "it is not right any more", x)
	}
	if b := (ballot{r.Term, x.Id}); r.Vote != 0 {
		if g.votes[b] != 0 && g.votes[b] != r.Vote {
			g.fail(x.Id, "it votes twice", x)
		}
		g.votes[b] = r.Vote
	}
	if r.Role == api.RoleLead {
		if leader := g.leaders[r.Term]; leader != 0 && leader != x.Id {
			g.fail(x.Id, fmt.Sprint("leads, as does ", leader), x)
		}
		g.leaders[r.Term] = x.Id
	}
	if x.Done != r.Commit {
		g.fail(x.Id, "not all that is settled is done", x)
	}
	g.settle(x)
	g.members[x.Id-1] = member{up: true, x: x}
}

// step is one of a replica that is up, held against the model; of what it would do if the power did not go is told, too.
func (g *group) step(id int, ask func(x api.Replica) stepped, model func(x api.Replica) stepped) {
	g.t.Helper()
	m := &g.members[id-1]
	if !m.up {
		return
	}
	x := m.x
	got := ask(x)
	if g.d.Intn(4) == 0 && !kindOfStepped().Same(got, model(x)) {
		holds(g.t, "a step", got, model(x))
		g.fail(id, "it does something else than the model", got.X)
	}
	if got.Why == api.ErrPower {
		if !replicatest.Same(got.X, api.Replica{Id: id, Disk: got.X.Disk}) || !got.X.Disk.Down || len(got.Packets)+len(got.Answers) > 0 {
			g.fail(id, "it has not fallen", got.X)
		}
		x.Disk.Fuse = -1
		*m = member{x: got.X, was: x.Raft, would: ask(x).X.Raft}
		g.seen["fallen in a step"]++
		return
	}
	g.seen[fmt.Sprint("error ", got.Why)]++
	g.compare(x, got.X)
	g.become(id, got.X)
	g.net, _, _ = net.Send(g.net, got.Packets)
	for _, a := range got.Answers {
		g.answered(got.X, a)
	}
}

// compare counts what became of a replica.
func (g *group) compare(was, now api.Replica) {
	switch end := endOf(now.Raft.Log); {
	case now.Raft.Log.Base > was.Raft.Commit:
		g.seen["installed"]++
	case end < endOf(was.Raft.Log):
		g.seen["shorter"]++
	case now.Raft.Log.Base > was.Raft.Log.Base:
		g.seen["trimmed"]++
	}
}

// answered holds that what is answered was asked in an entry that is settled, and told there.
func (g *group) answered(x api.Replica, a api.Answer) {
	g.t.Helper()
	g.seen["answers"]++
	for i, e := range g.settled[:x.Done] {
		if c, why := order.Decode(e.Data); e.Kind == api.EntryOrder && why == api.OK && c.Client == a.Client && c.Seq == a.Seq && g.tolds[i] == a.Told {
			return
		}
	}
	g.fail(x.Id, fmt.Sprint("answered is what is told nowhere: ", a), x)
}

func (g *group) tick(id int) {
	draw := g.d.Intn(64)
	g.step(id, func(x api.Replica) stepped {
		x, l, a, why := replica.Tick(x, draw)
		return stepped{x, l, a, why}
	}, func(x api.Replica) stepped { return modelTick(x, draw) })
}

// give takes a packet out of the net, or leaves it there to come once more.
func (g *group) give(at int, keep bool) {
	n, p, _ := net.Give(g.net, at)
	if !keep {
		g.net = n
	}
	if p.To > len(g.members) || slices.Contains(g.apart, p.From) || slices.Contains(g.apart, p.To) {
		return
	}
	draw := g.d.Intn(64)
	g.step(p.To, func(x api.Replica) stepped {
		x, l, a, why := replica.Take(x, p.From, p.Data, draw)
		return stepped{x, l, a, why}
	}, func(x api.Replica) stepped { return modelTake(x, p.From, p.Data, draw) })
}

// call is of a client's next command, or of its last one again.
func (g *group) call(id int) {
	client := uint64(1 + g.d.Intn(4))
	if g.d.Intn(6) > 0 {
		g.seqs[client]++
	}
	c := api.Command{Client: client, Seq: g.seqs[client], Order: g.order()}
	g.step(id, func(x api.Replica) stepped {
		x, l, a, why := replica.Call(x, c)
		return stepped{x, l, a, why}
	}, func(x api.Replica) stepped { return modelCall(x, c) })
}

// order is one of few names.
func (g *group) order() api.Order {
	n, k := fmt.Sprint("n", g.d.Intn(3)), fmt.Sprint("t", g.d.Intn(9))
	switch g.d.Intn(9) {
	case 0, 1:
		return api.Order{Kind: api.OrderNode, Node: api.Node{Name: n, Has: [api.Kinds]int64{4, 9, 9}}}
	case 2, 3, 4:
		return api.Order{Kind: api.OrderTask, Task: api.Task{Name: k, Needs: [api.Kinds]int64{int64(g.d.Intn(3))}, Rank: g.d.Intn(5)}}
	case 5:
		return ordertest.Named(api.OrderDone, k)
	case 6:
		return ordertest.Named(api.OrderFree, k)
	case 7:
		return ordertest.Named(api.OrderGone, n)
	}
	return ordertest.Named(api.OrderLook, k)
}

// change is of one more member, or of one fewer.
func (g *group) change(id int) {
	list := slices.Clone(g.first)
	for _, e := range g.members[id-1].x.Raft.Log.Entries {
		if e.Kind == api.EntryMembers {
			list = slices.Clone(e.Members)
		}
	}
	one := 1 + g.d.Intn(len(g.members))
	if at := slices.Index(list, one); at >= 0 {
		list = slices.Delete(list, at, at+1)
	} else {
		list = append(list, one)
		slices.Sort(list)
	}
	g.step(id, func(x api.Replica) stepped {
		x, l, a, why := replica.Change(x, list)
		return stepped{x, l, a, why}
	}, func(x api.Replica) stepped { return modelChange(x, list...) })
}

// fall is of one between two steps.
func (g *group) fall(id int) {
	if m := &g.members[id-1]; m.up {
		*m = member{x: api.Replica{Id: id, Disk: m.x.Disk}, was: m.x.Raft, would: m.x.Raft}
	}
}

// rise starts one again of what a crash left of its disk.
func (g *group) rise(id int) {
	g.t.Helper()
	m := g.members[id-1]
	if m.up {
		return
	}
	var keep []int
	for range m.x.Disk.Files {
		keep = append(keep, g.d.Intn(120)-20)
	}
	d, why := disk.Crash(m.x.Disk, keep)
	if why != api.OK {
		g.fail(id, "its disk is not right", m.x)
	}
	if g.d.Intn(4) == 0 {
		d.Fuse = g.d.Intn(5)
	}
	x, why := replica.Start(id, g.first, d, g.d.Intn(64))
	if why == api.ErrPower && replicatest.Same(x, api.Replica{Id: id, Disk: x.Disk}) && x.Disk.Down {
		g.members[id-1].x = x
		g.seen["fallen in a start"]++
		return
	}
	if why != api.OK {
		g.fail(id, fmt.Sprint("Start: error ", why), x)
	}
	x.Disk.Fuse = -1
	if what := forgotten(m.was, m.would, x.Raft); what != "" {
		g.fail(id, "it has forgotten "+what, x)
	}
	g.become(id, x)
	g.seen["risen"]++
}

// forgotten holds 17.6: of one that is started again, that was something, and was to be something else when the power went, it tells what it must not have forgotten, or nothing. Of the log there is all that both have, and nothing but theirs.
func forgotten(was, would, r api.Raft) string {
	switch {
	case r.Term != was.Term && r.Term != would.Term || r.Vote != was.Vote && r.Vote != would.Vote || r.Term == was.Term && r.Term != would.Term && r.Vote != was.Vote:
		return "its Term, or its Vote"
	case !logtest.SameSnap(r.Snap, was.Snap) && !logtest.SameSnap(r.Snap, would.Snap):
		return "its snapshot"
	}
	for index := r.Log.Base + 1; index <= max(endOf(r.Log), endOf(was.Log)); index++ {
		e, old, late := entryAt(r.Log, index), entryAt(was.Log, index), entryAt(would.Log, index)
		if !logtest.SameEntry(e, old) && !logtest.SameEntry(e, late) && (e.Index > 0 || logtest.SameEntry(old, late)) {
			return fmt.Sprint("what stood at ", index)
		}
	}
	return ""
}
