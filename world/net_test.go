package world_test

import (
	"math"
	"slices"
	"testing"

	"gaffer/api"
	"gaffer/logtest"
	"gaffer/replica"
	"gaffer/replicatest"
)

func give(n int) api.WorldStep  { return api.WorldStep{Kind: api.WorldGive, N: n, Draw: 5} }
func twice(n int) api.WorldStep { return api.WorldStep{Kind: api.WorldTwice, N: n} }
func lose(n int) api.WorldStep  { return api.WorldStep{Kind: api.WorldLose, N: n} }

// sent is w with those packets under way, and no others.
func sent(w api.World, l ...api.Packet) api.World {
	return with(w, func(w *api.World) { w.Net.Packets = l })
}

// lost is w without the i-th packet.
func lost(w api.World, i int) api.World {
	return with(w, func(w *api.World) { w.Net.Packets = slices.Delete(w.Net.Packets, i, i+1) })
}

// 19.2: net.Give's error of N: below 0, and above the last; so it is of Twice, and Lose.
func TestNoPacket(t *testing.T) {
	for _, kind := range netted {
		for _, w := range []api.World{some(), sent(some()), full(some(), 0), sent(some(), packet(1, 2, "?"))} {
			last := len(w.Net.Packets)
			for _, n := range []int{-1, last, last + 1, 9999, 1 << 32, math.MinInt, math.MaxInt} {
				s := step(kind, 1)
				s.N = n
				stays(t, "no packet", do(t, "no packet", w, s), w, api.ErrRange)
			}
		}
	}
}

// 19.2: Lose: the first one, the last, and those between; nobody hears of it.
func TestLose(t *testing.T) {
	for n := range 5 {
		holds(t, "lost", do(t, "lost", some(), lose(n)), told{W: lost(some(), n)})
	}
	for _, n := range []int{0, 1, 4094, 4095} {
		w := full(some(), 0)
		holds(t, "lost", do(t, "lost", w, lose(n)), told{W: lost(w, n)})
	}
}

// 19.2: Twice: once more at the end; ErrFull, if there is no room.
func TestTwice(t *testing.T) {
	for n := range 5 {
		want := with(some(), func(w *api.World) { w.Net.Packets = append(w.Net.Packets, w.Net.Packets[n]) })
		holds(t, "twice", do(t, "twice", some(), twice(n)), told{W: want})
		w := full(some(), 1)
		want = with(w, func(w *api.World) { w.Net.Packets = append(w.Net.Packets, w.Net.Packets[n]) })
		holds(t, "the last room", do(t, "the last room", w, twice(n)), told{W: want})
		w = full(some(), 0)
		stays(t, "no room", do(t, "no room", w, twice(n)), w, api.ErrFull)
	}
}

// 19.2: Give: the packet is no more in the net; who is up takes it, with that draw, and what it sends stands at the end.
func TestGive(t *testing.T) {
	asks := data(logtest.Ask(3, 9, 2))
	for _, draw := range []int{0, 5, 63, 64} {
		s := give(1)
		s.Draw = draw
		x, l, _, why := replica.Take(fresh(1), 2, asks, draw)
		if why != api.OK || len(l) != 1 || x.Raft.Wait != 10+draw%64 || x.Raft.Vote != 2 {
			t.Fatalf("it gives no vote: %s", replicatest.Brief(x))
		}
		want := with(lost(some(), 1), func(w *api.World) {
			w.Slots[0].Replica = x
			w.Net.Packets = append(w.Net.Packets, l...)
		})
		holds(t, "an ask", do(t, "an ask", some(), s), told{W: want})
		first := sent(some(), packet(2, 1, asks))
		holds(t, "the only one", do(t, "the only one", first, api.WorldStep{Kind: api.WorldGive, Draw: draw}), told{W: with(want, func(w *api.World) { w.Net.Packets = l })})
	}
	got := do(t, "to one that leads", some(), give(0))
	if r := got.W.Slots[1].Replica.Raft; got.Why != api.OK || r.Peers[0].Match != 7 || len(got.W.Net.Packets) != 4 {
		t.Errorf("to one that leads: error %d, %s", got.Why, brief(got.W))
	}
}

// 19.2: Give, to one that is not up, or that there is not: the packet is gone, and nothing else happens.
func TestGiveNobody(t *testing.T) {
	holds(t, "not up", do(t, "not up", some(), give(2)), told{W: lost(some(), 2)})
	holds(t, "not there", do(t, "not there", some(), give(3)), told{W: lost(some(), 3)})
	for to := 4; to <= 7; to++ {
		w := sent(some(), packet(1, to, data(logtest.Ask(3, 9, 2))))
		holds(t, "not there", do(t, "not there", w, give(0)), told{W: sent(w)})
	}
}

// 19.2: Give, of what is refused: that is no matter.
func TestGiveRefused(t *testing.T) {
	holds(t, "no packet's bytes", do(t, "no packet's bytes", some(), give(4)), told{W: lost(some(), 4)})
	noState := api.Snap{Index: 9, Term: 1, Members: []int{1}, Data: "?"}
	for _, s := range []string{"", data(logtest.Install(9, noState)), data(logtest.Ask(api.MaxNumber+1, 1, 1)), data(logtest.Voted(9, true)) + "x"} {
		for to := 1; to <= 2; to++ {
			w := sent(some(), packet(3, to, s), packet(3, 1, "?"))
			holds(t, "refused", do(t, "refused", w, give(0)), told{W: lost(w, 0)})
		}
	}
}

// 19.2: Give, to one that falls of it, at each change of its disk: ErrPower; the packet is gone, and nothing is sent.
func TestGiveFalls(t *testing.T) {
	append7 := data(logtest.Appends(9, 7, 4, 7, logtest.Order(8, 5, "?"), logtest.Lead(9, 9)))
	fell := 0
	for fuse := range 20 {
		w := fused(sent(slot(up(replicatest.Following())), packet(1, 3, "?"), packet(3, 2, append7)), 2, fuse)
		x, l, _, why := replica.Take(w.Slots[1].Replica, 3, append7, 5)
		want := told{W: with(lost(w, 1), func(w *api.World) {
			w.Slots[1] = api.Slot{Up: why == api.OK, Replica: x}
			w.Net.Packets = append(w.Net.Packets, l...)
		}), Why: why}
		if why == api.ErrPower {
			fell++
		}
		got := do(t, "falls", w, give(1))
		holds(t, "falls", got, want)
		if (why == api.OK) != got.W.Slots[1].Up || why != api.OK && (len(got.W.Net.Packets) != 1 || !got.W.Slots[1].Replica.Disk.Down) {
			t.Errorf("fuse %d: error %d, %s", fuse, why, brief(got.W))
		}
	}
	if fell < 5 || fell > 15 {
		t.Errorf("it fell %d times", fell)
	}
}

// 19.2: Give, of a full net: what is given makes room for one that is sent.
func TestGiveFull(t *testing.T) {
	w := full(some(), 0)
	got := do(t, "an ask", w, give(1))
	if way := got.W.Net.Packets; got.Why != api.OK || len(way) != 4096 || way[4095].From != 1 || way[4095].To != 2 {
		t.Errorf("error %d, %s", got.Why, brief(got.W))
	}
	holds(t, "an ask", got, modelDo(w, give(1)))
}
