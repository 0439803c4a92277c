package world_test

import (
	"fmt"
	"math/rand"
	"slices"
	"testing"

	"gaffer/api"
	"gaffer/booktest"
	"gaffer/ledger"
	"gaffer/ledgertest"
	"gaffer/logtest"
	"gaffer/order"
	"gaffer/ordertest"
	"gaffer/replicatest"
	"gaffer/world"
)

// history is a world that begins of nothing, to which anything happens, and all that was so once, by which is told whether what happens goes with the promises.
type history struct {
	t       *testing.T
	d       *rand.Rand
	w       api.World
	list    []api.Entry  // what is done by somebody, from Index 1 on
	states  []api.Ledger // what nothing, and each entry behind it, makes
	tolds   []api.Told   // what each entry is told
	events  []api.Event  // what clients did and saw, in order
	leaders map[uint64]int
	seqs    map[uint64]uint64 // the last command of each client
	apart   []int             // who hears of nobody, and is heard of by nobody
	seen    map[string]int    // what came how often
}

func newHistory(t *testing.T, seed int64, n int, first ...int) *history {
	t.Helper()
	w, why := world.New(n, first)
	if why != api.OK {
		t.Fatalf("New: error %d", why)
	}
	return &history{t: t, d: rand.New(rand.NewSource(seed)), w: w, states: []api.Ledger{{}}, leaders: map[uint64]int{}, seqs: map[uint64]uint64{}, seen: map[string]int{}}
}

func (h *history) fail(what ...any) {
	h.t.Helper()
	h.t.Fatalf("%s: %s", fmt.Sprint(what...), brief(h.w))
}

// do has a step happen, now and then held against the chapter's words, and looks at what became of it.
func (h *history) do(s api.WorldStep) api.Errno {
	h.t.Helper()
	was := h.w
	w, answers, why := world.Do(was, s)
	if h.d.Intn(8) == 0 {
		if want := modelDo(was, s); !kindOfTold().Same(told{w, answers, why}, want) {
			holds(h.t, "a step", told{w, answers, why}, want)
			h.fail("it is another step than the chapter's, kind ", s.Kind)
		}
	}
	h.w = w
	h.seen[fmt.Sprint("kind ", s.Kind, ", error ", why)]++
	if s.Kind == api.WorldCall && (why == api.OK || why == api.ErrPower && was.Slots[s.Who-1].Up) { // who falls of a call may have it on its disk
		h.events = append(h.events, api.Event{Call: true, Client: s.Command.Client, Seq: s.Command.Seq})
	}
	for i, now := range w.Slots {
		h.look(was.Slots[i], now)
	}
	for _, a := range answers {
		h.answered(a)
	}
	return why
}

// look holds 19.5, and P5: what a replica has done is one list with what the others have, and its state is what that list makes of nothing. And nobody leads in a Term in which another one does.
func (h *history) look(was, now api.Slot) {
	h.t.Helper()
	x, last := now.Replica, was.Replica
	isNew := !was.Up || last.Done != x.Done || last.Raft.Log.Base != x.Raft.Log.Base || last.Raft.Role != x.Raft.Role
	if !now.Up || !isNew && h.d.Intn(16) > 0 {
		return
	}
	for _, e := range x.Raft.Log.Entries[:x.Done-x.Raft.Log.Base] {
		switch n := uint64(len(h.list)); {
		case e.Index == n+1:
			h.add(e)
		case e.Index > n || !logtest.SameEntry(h.list[e.Index-1], e):
			h.fail(x.Id, " has done another list, at ", e.Index)
		}
	}
	if x.Done > uint64(len(h.list)) || !ledgertest.Same(x.Ledger, h.states[x.Done]) {
		h.fail(x.Id, " has another state than the list makes")
	}
	if x.Raft.Role == api.RoleLead {
		if other := h.leaders[x.Raft.Term]; other != 0 && other != x.Id {
			h.fail(x.Id, " leads, as does ", other)
		}
		h.leaders[x.Raft.Term] = x.Id
	}
	if base := x.Raft.Log.Base; was.Up && base > last.Raft.Commit {
		h.seen["installed"]++
	} else if was.Up && base > last.Raft.Log.Base {
		h.seen["trimmed"]++
	}
}

// add is of an entry that nobody has done before.
func (h *history) add(e api.Entry) {
	h.t.Helper()
	was := h.states[len(h.list)]
	now, told := was, api.Told{}
	switch e.Kind {
	case api.EntryLead:
		now, _ = ledger.Lead(was, e.Term)
	case api.EntryOrder:
		now, told = ledger.Apply(was, e.Data)
		h.seen[fmt.Sprint("told ", told.Why)]++
	case api.EntryMembers:
		h.seen["members"]++
	}
	h.list, h.states, h.tolds = append(h.list, e), append(h.states, now), append(h.tolds, told)
	h.room(now.Book)
	if e.Kind == api.EntryOrder && told.Why != api.OK && !booktest.Same(was.Book, now.Book) {
		h.fail("what is refused changes something")
	}
}

// room holds P6: each task that is on a node fits there, beside all others, and is on no other one.
func (h *history) room(b api.Book) {
	h.t.Helper()
	for i, on := range b.Binds {
		others := booktest.Clone(b)
		others.Binds = slices.Delete(others.Binds, i, i+1)
		task := slices.IndexFunc(b.Tasks, func(t api.Task) bool { return t.Name == on.Task })
		node := slices.IndexFunc(b.Nodes, func(n api.Node) bool { return n.Name == on.Node })
		twice := slices.ContainsFunc(others.Binds, func(other api.Bind) bool { return other.Task == on.Task })
		if task < 0 || node < 0 || twice || !booktest.Fits(others, b.Tasks[task], b.Nodes[node]) {
			h.fail(on.Task, " does not fit on ", on.Node)
		}
	}
	h.seen["binds"] += len(b.Binds)
}

// answered holds 19.6: what is answered was called, in an entry that is done, and told there.
func (h *history) answered(a api.Answer) {
	h.t.Helper()
	h.seen["answers"]++
	h.events = append(h.events, api.Event{Client: a.Client, Seq: a.Seq, Told: a.Told})
	for i, e := range h.list {
		if c, why := order.Decode(e.Data); h.tolds[i] == a.Told && e.Kind == api.EntryOrder && why == api.OK && c.Client == a.Client && c.Seq == a.Seq {
			return
		}
	}
	h.fail("answered is what is told nowhere: ", a)
}

// leader is one that leads, mostly, if there is any.
func (h *history) leader(other int) int {
	if who := leaderOf(h.w); who > 0 && h.d.Intn(4) > 0 {
		return who
	}
	return other
}

func (h *history) tick(who int) {
	h.t.Helper()
	h.do(api.WorldStep{Kind: api.WorldTick, Who: who, Draw: h.d.Intn(64)})
}

// give has a packet come, or be lost, if it is of somebody who is apart, or to such a one.
func (h *history) give(at, draw int) {
	h.t.Helper()
	p := h.w.Net.Packets[at]
	kind := api.WorldGive
	if slices.Contains(h.apart, p.From) || slices.Contains(h.apart, p.To) {
		kind = api.WorldLose
	}
	h.do(api.WorldStep{Kind: kind, N: at, Draw: draw})
}

// call is of a client's next command, or of an earlier one again.
func (h *history) call(who int) {
	h.t.Helper()
	client := uint64(1 + h.d.Intn(4))
	seq := h.seqs[client]
	switch n := h.d.Intn(12); {
	case n > 1:
		seq++
		h.seqs[client] = seq
	case n == 0:
		seq -= min(seq, uint64(h.d.Intn(3)))
	}
	h.do(api.WorldStep{Kind: api.WorldCall, Who: who, Command: api.Command{Client: client, Seq: seq, Order: h.order()}})
}

// order is one of few names; its Fence is one of a leader that there was, or about it.
func (h *history) order() api.Order {
	n, k := fmt.Sprint("n", h.d.Intn(3)), fmt.Sprint("t", h.d.Intn(9))
	fence := h.states[len(h.list)].Book.Fence
	switch h.d.Intn(10) {
	case 0, 1:
		return api.Order{Kind: api.OrderNode, Node: api.Node{Name: n, Has: [api.Kinds]int64{4, 9, 9}, Taints: booktest.Pairs("gpu", "")[:h.d.Intn(4)/3]}}
	case 2, 3, 4:
		one := api.Task{Name: k, Needs: [api.Kinds]int64{int64(h.d.Intn(3))}, Rank: h.d.Intn(5), Bears: booktest.Pairs("gpu", "")[:h.d.Intn(2)]}
		one.Group, one.Apart = []string{"", "red", "blue"}[h.d.Intn(3)], []string{"", "", "red"}[h.d.Intn(3)]
		return api.Order{Kind: api.OrderTask, Task: one}
	case 5:
		return ordertest.Named(api.OrderDone, k)
	case 6:
		return ordertest.Named(api.OrderFree, k)
	case 7:
		return ordertest.Named(api.OrderGone, n)
	case 8:
		return api.Order{Kind: api.OrderBind, Name: k, On: n, Fence: fence + 1 - min(fence+1, uint64(h.d.Intn(4)))}
	}
	return ordertest.Named(api.OrderLook, k)
}

// change is of one more member, or of one fewer.
func (h *history) change(who int) {
	h.t.Helper()
	list := slices.Clone(h.w.First)
	for _, e := range h.w.Slots[who-1].Replica.Raft.Log.Entries {
		if e.Kind == api.EntryMembers {
			list = slices.Clone(e.Members)
		}
	}
	one := 1 + h.d.Intn(len(h.w.Slots))
	if at := slices.Index(list, one); at >= 0 {
		list = slices.Delete(list, at, at+1)
	} else {
		list = append(list, one)
		slices.Sort(list)
	}
	h.do(api.WorldStep{Kind: api.WorldChange, Who: who, Members: list})
}

// rise is of one that fell, mostly; anything is kept of its disk.
func (h *history) rise(who int) {
	h.t.Helper()
	var keep []int
	for range h.d.Intn(len(h.w.Slots[who-1].Replica.Disk.Files) + 2) {
		keep = append(keep, h.d.Intn(120)-20)
	}
	h.do(api.WorldStep{Kind: api.WorldRise, Who: who, Keep: keep, Draw: h.d.Intn(64)})
}

// round holds 19.3: a round is what its packets and ticks are, one by one.
func (h *history) round(draws ...int) {
	h.t.Helper()
	want, answers, why := world.Round(h.w, draws)
	draw := func(who int) int {
		if who > len(draws) {
			return 0
		}
		return max(0, draws[who-1])
	}
	seen := len(h.events)
	for range h.w.Net.Packets {
		h.do(api.WorldStep{Kind: api.WorldGive, Draw: draw(h.w.Net.Packets[0].To)})
	}
	for i, s := range h.w.Slots {
		if s.Up {
			h.do(api.WorldStep{Kind: api.WorldTick, Who: i + 1, Draw: draw(i + 1)})
		}
	}
	same := same(want, h.w) && why == api.OK && len(answers) == len(h.events)-seen
	for i, a := range answers {
		same = same && h.events[seen+i] == api.Event{Client: a.Client, Seq: a.Seq, Told: a.Told}
	}
	if !same {
		h.fail("a round is another one than its steps: ", brief(want), replicatest.BriefAnswers(answers))
	}
}

// storm is of leaders that go and come: somebody stands for election, or falls and rises at once, or who is apart is another one.
func (h *history) storm() {
	h.t.Helper()
	who := 1 + h.d.Intn(len(h.w.Slots))
	switch h.d.Intn(5) {
	case 0, 1:
		for range api.MinWait + api.Spread {
			if h.w.Slots[who-1].Replica.Raft.Role == api.RoleFollow {
				h.tick(who)
			}
		}
	case 2:
		h.do(api.WorldStep{Kind: api.WorldFall, Who: who})
		h.rise(who)
	case 3:
		h.apart = []int{h.leader(who)}
	default:
		h.apart = nil
	}
}

// chaos is a step of any kind; changes are those of members.
func (h *history) chaos(changes bool) {
	h.t.Helper()
	who := 1 + h.d.Intn(len(h.w.Slots))
	way := len(h.w.Net.Packets)
	switch n := h.d.Intn(1000); {
	case n < 560 && way > 0:
		at := h.d.Intn(min(way, 8)) // the first ones, mostly
		if h.d.Intn(5) == 0 {
			at = h.d.Intn(way)
		}
		h.give(at, h.d.Intn(64))
	case n < 580 && way > 0, way > 90:
		h.do(api.WorldStep{Kind: api.WorldLose, N: h.d.Intn(way)})
	case n < 640 && way > 0:
		h.do(api.WorldStep{Kind: api.WorldTwice, N: h.d.Intn(way)})
	case n < 770:
		for range h.d.Intn(12) {
			h.tick(who)
		}
	case n < 920:
		for range 1 + h.d.Intn(3) {
			h.call(h.leader(who))
		}
	case n < 945 && changes:
		h.change(h.leader(who))
	case n < 950:
		h.do(api.WorldStep{Kind: api.WorldFuse, Who: who, N: h.d.Intn(20) - 1})
	case n < 957:
		h.do(api.WorldStep{Kind: api.WorldFall, Who: who})
	case n < 967:
		h.apart = [][]int{nil, {who}, {h.leader(who)}}[h.d.Intn(3)]
	case n < 972:
		h.do(api.WorldStep{Kind: kinds()[h.d.Intn(len(kinds()))], Who: h.d.Intn(9) - 1, N: h.d.Intn(99) - 1, Draw: h.d.Intn(9) - 1})
	case n < 977 && len(h.apart) == 0:
		for range h.d.Intn(20) {
			h.round(h.d.Intn(64), h.d.Intn(64)-9, h.d.Intn(64), h.d.Intn(64))
		}
	default:
		h.rise(who)
	}
}
