package world_test

import (
	"math"
	"slices"
	"testing"

	"gaffer/api"
	"gaffer/coretest"
	"gaffer/disktest"
	"gaffer/logtest"
	"gaffer/msg"
	"gaffer/ordertest"
	"gaffer/replicatest"
	"gaffer/world"
)

func data(m api.Msg) string {
	s, _ := msg.Encode(m)
	return s
}

func look(client, seq uint64, name string) api.Command {
	return api.Command{Client: client, Seq: seq, Order: ordertest.Named(api.OrderLook, name)}
}

// step is of a kind, with all that any kind has.
func step(kind api.WorldKind, who int) api.WorldStep {
	return api.WorldStep{Kind: kind, Who: who, N: 1, Draw: 5, Keep: []int{1, 2}, Command: look(3, 1, "a"), Members: []int{1, 2, 3}}
}

var (
	named  = []api.WorldKind{api.WorldTick, api.WorldFuse, api.WorldFall, api.WorldRise, api.WorldCall, api.WorldChange}
	drawn  = []api.WorldKind{api.WorldTick, api.WorldGive, api.WorldRise}
	netted = []api.WorldKind{api.WorldGive, api.WorldTwice, api.WorldLose}
)

// slot is some with another one in the second slot, which is led by nobody.
func slot(s api.Slot) api.World {
	return with(some(), func(w *api.World) { w.Slots[1] = s })
}

// 19.2: ErrForm, if the kind is none, whatever else is wrong.
func TestNoKind(t *testing.T) {
	for _, kind := range []api.WorldKind{0, 10, 11, 128, 255} {
		for _, who := range []int{-1, 0, 1, 3, 4} {
			s := step(kind, who)
			stays(t, "no kind", do(t, "no kind", some(), s), some(), api.ErrForm)
			s.Draw, s.N = -1, -1
			stays(t, "no kind, no draw", do(t, "no kind, no draw", some(), s), some(), api.ErrForm)
		}
	}
}

// 19.2: ErrRange, if a kind that names Who has one that there is not, ahead of what it is told of one who is there; in the others it is no matter.
func TestWho(t *testing.T) {
	for _, kind := range named {
		for _, w := range []api.World{some(), full(some(), 0), of(up(fresh(1)))} {
			last := len(w.Slots)
			for _, who := range []int{0, last + 1, -1, 8, 257, 1 << 32, 1<<32 + 1, math.MinInt, math.MaxInt} {
				stays(t, "Who", do(t, "Who", w, step(kind, who)), w, api.ErrRange)
			}
			for _, who := range []int{1, last} {
				if _, _, why := world.Do(w, step(kind, who)); why == api.ErrRange {
					t.Errorf("kind %d: there is no %d", kind, who)
				}
			}
		}
	}
	for _, kind := range netted {
		want := do(t, "Who", some(), step(kind, 1))
		for _, who := range []int{0, 4, -1, math.MinInt, math.MaxInt} {
			holds(t, "no matter", do(t, "no matter", some(), step(kind, who)), want)
		}
	}
}

// 19.2: ErrRange, if Draw is below 0 in a kind that has one, ahead of ErrPower and ErrState; in the others it is no matter.
func TestDraw(t *testing.T) {
	for _, kind := range kinds()[2:] {
		for who := 1; who <= 3; who++ {
			s := step(kind, who)
			want := do(t, "Draw", some(), s)
			for _, draw := range []int{-1, -64, math.MinInt} {
				s.Draw = draw
				got := do(t, "Draw", some(), s)
				if slices.Contains(drawn, kind) {
					stays(t, "Draw", got, some(), api.ErrRange)
				} else {
					holds(t, "no matter", got, want)
				}
			}
		}
	}
	for _, draw := range []int{0, 63, 64, math.MaxInt} {
		for who := 1; who <= 3; who++ {
			for _, kind := range drawn {
				s := step(kind, who)
				s.Draw = draw
				holds(t, "any Draw", do(t, "any Draw", some(), s), modelDo(some(), s))
			}
		}
	}
}

// 19.2: fields that the kind has not are no matter.
func TestOtherFields(t *testing.T) {
	for _, kind := range kinds()[2:] {
		for who := 1; who <= 3; who++ {
			want := do(t, "fields", some(), step(kind, who))
			other := api.WorldStep{Kind: kind, N: math.MinInt, Draw: math.MinInt, Keep: []int{math.MaxInt, -1}, Command: api.Command{Seq: 1}, Members: []int{9, -1}}
			if slices.Contains(named, kind) {
				other.Who = who
			}
			if slices.Contains(drawn, kind) {
				other.Draw = 5
			}
			switch kind {
			case api.WorldGive, api.WorldTwice, api.WorldLose, api.WorldFuse:
				other.N = 1
			case api.WorldRise:
				other.Keep = []int{1, 2}
			case api.WorldCall:
				other.Command = look(3, 1, "a")
			case api.WorldChange:
				other.Members = []int{1, 2, 3}
			}
			holds(t, "fields", do(t, "fields", some(), other), want)
		}
	}
}

// 19.2: ErrPower, if Who is not Up, and nothing is done; but a rise.
func TestNotUp(t *testing.T) {
	for _, kind := range named {
		if kind != api.WorldRise {
			stays(t, "not up", do(t, "not up", some(), step(kind, 3)), some(), api.ErrPower)
		}
	}
	off := with(some(), func(w *api.World) { w.Slots[2].Replica.Disk.Down = true })
	stays(t, "no power", do(t, "no power", off, step(api.WorldTick, 3)), off, api.ErrPower)
}

// 19.2: a tick: one that follows waits one tick less; one that leads sends to all, in order, at the end of the net.
func TestTick(t *testing.T) {
	want := with(some(), func(w *api.World) { w.Slots[0].Replica.Raft.Wait = 9 })
	holds(t, "follows", do(t, "follows", some(), step(api.WorldTick, 1)), told{W: want})
	got := do(t, "leads", some(), step(api.WorldTick, 2))
	way := got.W.Net.Packets[5:]
	if got.Why != api.OK || len(got.Answers) > 0 || len(way) != 3 || !slices.Equal(got.W.Net.Packets[:5], some().Net.Packets) {
		t.Fatalf("leads: error %d, %s", got.Why, brief(got.W))
	}
	for i, to := range []int{1, 3, 5} {
		if way[i].From != 2 || way[i].To != to {
			t.Errorf("leads: %s", replicatest.BriefPackets(way))
		}
	}
	want = with(some(), func(w *api.World) { w.Net = got.W.Net })
	holds(t, "leads", got, told{W: want})
}

// 19.2: a call of one that leads alone is answered at once; of another one its error is told, and the world is as it was.
func TestCall(t *testing.T) {
	s := step(api.WorldCall, 1)
	got := do(t, "alone", of(up(replicatest.Alone())), s)
	want := []api.Answer{{Client: 3, Seq: 1, Told: api.Told{Why: api.ErrNone}}}
	if x := got.W.Slots[0].Replica; got.Why != api.OK || !slices.Equal(got.Answers, want) || x.Done != 2 || len(x.Ledger.Clients) != 1 {
		t.Errorf("alone: error %d, %s, %s", got.Why, brief(got.W), replicatest.BriefAnswers(got.Answers))
	}
	stays(t, "follows", do(t, "follows", some(), s), some(), api.ErrLeader)
	for _, c := range []api.Command{{}, look(0, 0, "a"), look(0, 1, "a"), look(1, 1, "A"), {Client: 1, Seq: 1}} {
		for who := 1; who <= 2; who++ {
			stays(t, "no command", do(t, "no command", some(), api.WorldStep{Kind: api.WorldCall, Who: who, Command: c}), some(), api.ErrForm)
		}
	}
	got = do(t, "leads", some(), step(api.WorldCall, 2))
	if x := got.W.Slots[1].Replica; got.Why != api.OK || len(got.Answers) > 0 || len(x.Waits) != 1 || x.Waits[0] != (api.Wait{Index: 8, Term: 4, Client: 3, Seq: 1}) || len(got.W.Net.Packets) != 8 {
		t.Errorf("leads: error %d, %s", got.Why, brief(got.W))
	}
	long := slot(up(replicatest.With(replicatest.Leading(), func(x *api.Replica) {
		*x = replicatest.Of(coretest.Holding(x.Raft, logtest.Row(2, 1, slices.Repeat([]uint64{2}, 64)...)))
	})))
	stays(t, "no room", do(t, "no room", long, step(api.WorldCall, 2)), long, api.ErrFull)
}

// 19.2: a change of members, and its errors.
func TestChange(t *testing.T) {
	alone := of(up(replicatest.Alone()))
	changes := func(w api.World, who int, members ...int) told {
		return do(t, "a change", w, api.WorldStep{Kind: api.WorldChange, Who: who, Members: members})
	}
	stays(t, "follows", changes(some(), 1, 1, 2), some(), api.ErrLeader)
	stays(t, "no members", changes(alone, 1), alone, api.ErrForm)
	stays(t, "wrong members", changes(alone, 1, 2, 1), alone, api.ErrForm)
	stays(t, "two more", changes(alone, 1, 1, 2, 3), alone, api.ErrRange)
	got := changes(alone, 1, 1, 4)
	if r := got.W.Slots[0].Replica.Raft; got.Why != api.OK || len(r.Peers) != 1 || r.Peers[0].Id != 4 || len(got.W.Net.Packets) != 1 || got.W.Net.Packets[0].To != 4 {
		t.Errorf("one more: error %d, %s", got.Why, brief(got.W))
	}
	stays(t, "one more is under way", changes(got.W, 1, 1), got.W, api.ErrState)
}

// 19.2: what has no room in the net is lost; what is sent first has it first.
func TestNoRoom(t *testing.T) {
	sent := do(t, "room for all", some(), step(api.WorldTick, 2)).W.Net.Packets[5:]
	for room := range 5 {
		w := full(some(), room)
		want := with(w, func(w *api.World) {
			w.Net.Packets = append(w.Net.Packets, sent[:min(3, room)]...)
		})
		holds(t, "a tick", do(t, "a tick", w, step(api.WorldTick, 2)), told{W: want})
		called := do(t, "a call", w, step(api.WorldCall, 2))
		if called.Why != api.OK || len(called.W.Slots[1].Replica.Waits) != 1 || len(called.W.Net.Packets) != min(4096, 4096-room+3) {
			t.Errorf("a call: error %d, %d packets", called.Why, len(called.W.Net.Packets))
		}
	}
}

// 19.2: steps of replicas in each place, of each kind, in worlds at all edges, are as the chapter's words have them.
func TestModel(t *testing.T) {
	t.Parallel()
	n := 0
	for what, w := range rights() {
		for _, kind := range kinds() {
			if n++; len(w.Net.Packets) > 4000 && n%3 > 0 {
				continue
			}
			s := step(kind, len(w.Slots))
			s.N = n % 7
			holds(t, what, do(t, what, w, s), modelDo(w, s))
		}
	}
	for _, d := range []api.Disk{disktest.Of(), replicatest.Leading().Disk, {}} {
		w := slot(api.Slot{Replica: fallen(2, d)})
		for _, kind := range kinds() {
			s := step(kind, 2)
			holds(t, "other disks", do(t, "other disks", w, s), modelDo(w, s))
		}
	}
}
