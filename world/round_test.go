package world_test

import (
	"math"
	"slices"
	"testing"

	"gaffer/api"
	"gaffer/logtest"
	"gaffer/ordertest"
	"gaffer/replicatest"
	"gaffer/world"
)

// one is what a replica becomes, if it is that of another Id.
func one(id int, x api.Replica) api.Replica {
	return replicatest.With(x, func(x *api.Replica) { x.Id, x.Raft.Id = id, id })
}

// waits is w with a Wait of one who is up.
func waits(w api.World, who, wait int) api.World {
	return with(w, func(w *api.World) { w.Slots[who-1].Replica.Raft.Wait = wait })
}

func start(n int, first ...int) api.World {
	w, _ := world.New(n, first)
	return w
}

// rounds are n of them, with the same draws; and what is answered meanwhile.
func rounds(w api.World, n int, draws ...int) (api.World, []api.Answer) {
	var answers []api.Answer
	for range n {
		var l []api.Answer
		w, l, _ = world.Round(w, draws)
		answers = append(answers, l...)
	}
	return w, answers
}

// 19.3: what is sent in a round comes in the next one: an election, step by step, with the draws of each.
func TestElection(t *testing.T) {
	w := waits(start(3, 1, 2, 3), 1, 1)
	got := round(t, "stands", w, 7, 20, 30)
	r := func(id int) api.Raft { return got.W.Slots[id-1].Replica.Raft }
	if way := got.W.Net.Packets; r(1).Role != api.RoleStand || r(1).Wait != 17 || r(2).Wait != 11 || r(3).Wait != 12 || len(way) != 2 || way[0].To != 2 || way[1].To != 3 {
		t.Errorf("stands: %s", brief(got.W))
	}
	got = round(t, "votes", got.W, 7, 20, 30)
	if way := got.W.Net.Packets; r(1).Wait != 16 || r(2).Vote != 1 || r(3).Vote != 1 || r(2).Wait != 29 || r(3).Wait != 39 || len(way) != 2 || way[0].From != 2 || way[1].From != 3 {
		t.Errorf("votes: %s", brief(got.W))
	}
	got = round(t, "leads", got.W, 7, 20, 30)
	if way := got.W.Net.Packets; r(1).Role != api.RoleLead || r(1).Commit != 0 || len(way) != 4 || way[0].To != 2 || way[1].To != 3 || way[2].To != 2 || way[3].To != 3 {
		t.Errorf("leads: %s", brief(got.W))
	}
	got = round(t, "follow", got.W, 7, 20, 30)
	if way := got.W.Net.Packets; r(2).Leader != 1 || r(3).Leader != 1 || r(2).Wait != 29 || len(way) != 6 {
		t.Errorf("follow: %s", brief(got.W))
	}
	got = round(t, "settled", got.W, 7, 20, 30)
	if x := got.W.Slots[0].Replica; x.Done != 1 || x.Ledger.Book.Fence != 1 || got.W.Slots[1].Replica.Done != 0 {
		t.Errorf("settled: %s", brief(got.W))
	}
	got = round(t, "settled by all", got.W, 7, 20, 30)
	for id := range 3 {
		if x := got.W.Slots[id].Replica; x.Done != 1 || x.Ledger.Book.Fence != 1 {
			t.Errorf("settled by all: %s", replicatest.Brief(x))
		}
	}
}

// 19.3: the draw of the i-th is the i-th of draws, in what it takes and in its tick; 0, if there is none, or it is below 0; more than slots are no matter.
func TestRoundDraws(t *testing.T) {
	asked := sent(start(3, 1, 2, 3), packet(1, 2, data(logtest.Ask(3, 9, 2))), packet(1, 3, data(logtest.Ask(3, 9, 2))))
	stand := waits(waits(waits(start(3, 1, 2, 3), 1, 1), 2, 0), 3, 1)
	for _, draws := range [][]int{nil, {}, {1}, {1, 2}, {1, 2, 3}, {1, 2, 3, 4}, {1, 2, 3, 4, 5, 6, 7, 8, 9}, {-1, -2, -3}, {5, math.MinInt, 7}, {-1, 9}, {64, 65, math.MaxInt}} {
		draw := func(i int) int { return slices.Concat(draws, []int{0, 0, 0})[i] }
		took, stood := round(t, "asked", asked, draws...), round(t, "stand", stand, draws...)
		for i := range 3 {
			want := 10 + max(0, draw(i))%64
			if r := stood.W.Slots[i].Replica.Raft; r.Role != api.RoleStand || r.Wait != want {
				t.Errorf("draws %v: %d waits %d, not %d", draws, i+1, r.Wait, want)
			}
			if r := took.W.Slots[i].Replica.Raft; i > 0 && (r.Vote != 1 || r.Wait != want-1) {
				t.Errorf("draws %v: %d waits %d, not %d", draws, i+1, r.Wait, want-1)
			}
		}
	}
}

// 19.3: all packets are taken out first: so there is room in a net that was full, and who is not up, or not there, hears of nothing.
func TestRoundTakesAll(t *testing.T) {
	w := full(sent(some()), 0)
	got := round(t, "a full net", w, 5, 5, 5)
	want := with(some(), func(w *api.World) {
		w.Slots[0].Replica.Raft.Wait = 9
		w.Net.Packets = do(t, "a tick", some(), step(api.WorldTick, 2)).W.Net.Packets[5:]
	})
	holds(t, "a full net", got, told{W: want})
	w = sent(some(), slices.Repeat([]api.Packet{packet(1, 2, data(logtest.Appended(4, false, 7)))}, 4096)...)
	if got = round(t, "many answers", w); len(got.W.Net.Packets) != 4096 || got.W.Net.Packets[4095].To != 1 {
		t.Errorf("many answers: %s", brief(got.W))
	}
	down := with(some(), func(w *api.World) { w.Slots[0], w.Slots[1] = down(w.Slots[0].Replica), down(w.Slots[1].Replica) })
	holds(t, "nobody is up", round(t, "nobody is up", down, 1, 2), told{W: sent(down)})
}

// 19.3: what is answered stands in order: of the packets first, as they came, then of the ticks.
func TestRoundAnswers(t *testing.T) {
	undone := func(id, done int) api.Slot {
		x := replicatest.Undone(replicatest.Following(), uint64(done))
		x.Waits = []api.Wait{{Index: 5, Term: 2, Client: uint64(id), Seq: 5}}
		if done < 3 {
			x.Waits = slices.Insert(x.Waits, 0, api.Wait{Index: 3, Term: 1, Client: uint64(id), Seq: 3})
		}
		return up(one(id, x))
	}
	w := sent(of(undone(1, 2), undone(2, 3), undone(3, 4)), packet(1, 3, data(logtest.Voted(1, true))), packet(1, 2, "?"), packet(3, 2, data(logtest.Voted(1, true))))
	want := []api.Answer{{Client: 3, Seq: 5}, {Client: 2, Seq: 5}, {Client: 1, Seq: 3}, {Client: 1, Seq: 5}}
	got := round(t, "answers", w)
	if got.Why != api.OK || !slices.Equal(got.Answers, want) {
		t.Errorf("answers: %s", replicatest.BriefAnswers(got.Answers))
	}
	holds(t, "answers", got, modelRound(w, nil))
}

// 19.3: one that falls of a packet, or in its tick, is not up any more, takes nothing and ticks no more; the others go on, and that is told as no error.
func TestRoundFalls(t *testing.T) {
	append7 := data(logtest.Appends(9, 7, 4, 7, logtest.Order(8, 5, "?"), logtest.Lead(9, 9)))
	fell := map[string]int{}
	for fuse := range 20 {
		x := one(1, replicatest.Following())
		x.Raft.Wait, x.Disk.Fuse = 11, fuse
		w := sent(of(up(x), up(fresh(2)), up(fresh(3))), packet(3, 1, append7), packet(2, 1, data(logtest.Ask(10, 99, 99))), packet(1, 2, data(logtest.Ask(3, 9, 2))))
		w.Slots[2].Replica.Raft.Wait, w.Slots[2].Replica.Disk.Fuse = 1, fuse
		got := round(t, "falls", w, 1, 2, 3)
		holds(t, "falls", got, modelRound(w, []int{1, 2, 3}))
		for i, s := range got.W.Slots {
			if !s.Up {
				fell[[]string{"of a packet", "", "in its tick"}[i]]++
			}
		}
		if r := got.W.Slots[1].Replica.Raft; got.Why != api.OK || r.Vote != 1 {
			t.Errorf("fuse %d: error %d, %s", fuse, got.Why, brief(got.W))
		}
	}
	if fell["of a packet"] < 5 || fell["in its tick"] < 2 || len(fell) != 2 {
		t.Errorf("so many fell: %v", fell)
	}
}

// 19.3, in worlds at all edges: as the chapter's words have it.
func TestRoundModel(t *testing.T) {
	t.Parallel()
	for what, w := range rights() {
		for _, draws := range [][]int{nil, {9, -1, 20, 30}} {
			holds(t, what, round(t, what, w, draws...), modelRound(w, draws))
		}
	}
}

// The chapter's example: one alone leads behind ten rounds; it binds by itself.
func TestExample(t *testing.T) {
	w, _ := rounds(start(1, 1), 10)
	if w.Slots[0].Replica.Raft.Role != api.RoleFollow {
		t.Error("it leads ahead of its wait")
	}
	if w, _ = rounds(w, 1); w.Slots[0].Replica.Raft.Role != api.RoleLead {
		t.Errorf("it does not lead: %s", brief(w))
	}
	for seq, o := range []api.Order{{Kind: api.OrderNode, Node: api.Node{Name: "n"}}, {Kind: api.OrderTask, Task: api.Task{Name: "a"}}} {
		got := do(t, "called", w, api.WorldStep{Kind: api.WorldCall, Who: 1, Command: api.Command{Client: 1, Seq: uint64(seq), Order: o}})
		if got.Why != api.OK || len(got.Answers) != 1 || got.Answers[0].Told != (api.Told{}) {
			t.Errorf("called: error %d, %s", got.Why, replicatest.BriefAnswers(got.Answers))
		}
		w = got.W
	}
	w, _ = rounds(w, 2)
	if b := w.Slots[0].Replica.Ledger.Book.Binds; len(b) != 1 || b[0] != (api.Bind{Task: "a", Node: "n"}) {
		t.Errorf("it binds nothing: %s", brief(w))
	}
}

// leaderOf is who leads in the greatest Term, of those who are up; 0, if nobody does.
func leaderOf(w api.World) int {
	who, term := 0, uint64(0)
	for i, s := range w.Slots {
		if r := s.Replica.Raft; s.Up && r.Role == api.RoleLead && r.Term > term {
			who, term = i+1, r.Term
		}
	}
	return who
}

// Examples 9 and 10 of the whole: a leader that falls is followed by another one, in a later Term, and a bind that comes late is refused; a world of three, one of which is down, goes on.
func TestLeaderFalls(t *testing.T) {
	w, _ := rounds(start(3, 1, 2, 3), 60, 0, 20, 40)
	who := leaderOf(w)
	if who == 0 {
		t.Fatalf("nobody leads: %s", brief(w))
	}
	term := w.Slots[who-1].Replica.Raft.Term
	call := func(seq uint64, o api.Order) api.Told {
		var now, later []api.Answer
		var why api.Errno
		w, now, why = world.Do(w, api.WorldStep{Kind: api.WorldCall, Who: leaderOf(w), Command: api.Command{Client: 1, Seq: seq, Order: o}})
		w, later = rounds(w, 10, 0, 20, 40)
		if l := append(now, later...); why != api.OK || len(l) != 1 || l[0].Client != 1 || l[0].Seq != seq {
			t.Fatalf("a call: error %d, %s", why, replicatest.BriefAnswers(l))
		} else {
			return l[0].Told
		}
		return api.Told{}
	}
	if got := call(1, api.Order{Kind: api.OrderNode, Node: api.Node{Name: "n"}}); got != (api.Told{}) {
		t.Errorf("a node: %v", got)
	}
	w = do(t, "falls", w, fall(who)).W
	w, _ = rounds(w, 120, 0, 20, 40)
	now := leaderOf(w)
	if now == 0 || now == who || w.Slots[now-1].Replica.Raft.Term <= term {
		t.Fatalf("nobody follows: %s", brief(w))
	}
	call(2, api.Order{Kind: api.OrderTask, Task: api.Task{Name: "t", Wants: []api.Pair{{Key: "none"}}}})
	if got := call(3, api.Order{Kind: api.OrderBind, Name: "t", On: "n", Fence: term}); got.Why != api.ErrFence {
		t.Errorf("a bind that comes late: %v", got)
	}
	call(4, api.Order{Kind: api.OrderTask, Task: api.Task{Name: "u"}})
	if got := call(5, ordertest.Named(api.OrderLook, "u")); got != (api.Told{Text: "n"}) {
		t.Errorf("where it is: %v", got)
	}
	w = do(t, "rises", w, rise(who, 60)).W
	w, _ = rounds(w, 10, 0, 20, 40)
	if x := w.Slots[who-1].Replica; len(x.Ledger.Book.Binds) != 1 || x.Raft.Leader != now {
		t.Errorf("it does not come back: %s", replicatest.Brief(x))
	}
}
