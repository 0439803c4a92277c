package world_test

import (
	"math"
	"slices"
	"strconv"
	"testing"

	"gaffer/api"
	"gaffer/coretest"
	"gaffer/disktest"
	"gaffer/logtest"
	"gaffer/memtest"
	"gaffer/ordertest"
	"gaffer/replica"
	"gaffer/replicatest"
	"gaffer/world"
)

const most = math.MaxUint64

// given are all lists that a call is handed, told is all that it tells; what it has not is zero.
type given struct {
	W     api.World
	First []int
	Draws []int
	S     api.WorldStep
}

type told struct {
	W       api.World
	Answers []api.Answer
	Why     api.Errno
}

func kindOfGiven() memtest.Kind[given] {
	return memtest.Kind[given]{Visit: func(v *memtest.Visitor, g *given) {
		visit(v, &g.W)
		logtest.VisitMembers(v, &g.First)
		logtest.VisitMembers(v, &g.Draws)
		logtest.VisitMembers(v, &g.S.Keep)
		ordertest.Visit(v, &g.S.Command)
		logtest.VisitMembers(v, &g.S.Members)
	}}
}

func kindOfTold() memtest.Kind[told] {
	return memtest.Kind[told]{
		Visit: func(v *memtest.Visitor, a *told) {
			visit(v, &a.W)
			replicatest.VisitAnswers(v, &a.Answers)
		},
		Same: func(a, b told) bool {
			return same(a.W, b.W) && slices.Equal(a.Answers, b.Answers) && a.Why == b.Why
		},
	}
}

// visit goes through all lists of w.
func visit(v *memtest.Visitor, w *api.World) {
	logtest.VisitMembers(v, &w.First)
	memtest.List(v, &w.Slots, func(n int) api.Slot { return api.Slot{Replica: api.Replica{Id: n}} }, sameSlot, func(s *api.Slot) { replicatest.Visit(v, &s.Replica) })
	replicatest.VisitPackets(v, &w.Net.Packets)
}

// same takes nil and empty lists for alike.
func same(a, b api.World) bool {
	return slices.Equal(a.First, b.First) && slices.EqualFunc(a.Slots, b.Slots, sameSlot) && slices.Equal(a.Net.Packets, b.Net.Packets)
}

func sameSlot(a, b api.Slot) bool {
	return a.Up == b.Up && replicatest.Same(a.Replica, b.Replica)
}

func clone(w api.World) api.World {
	w.First, w.Slots, w.Net.Packets = slices.Clone(w.First), slices.Clone(w.Slots), slices.Clone(w.Net.Packets)
	for i := range w.Slots {
		w.Slots[i].Replica = replicatest.Clone(w.Slots[i].Replica)
	}
	return w
}

// with is w with a change.
func with(w api.World, change func(w *api.World)) api.World {
	w = clone(w)
	change(&w)
	return w
}

// brief is few words on w, however much is there.
func brief(w api.World) string {
	s := "First" + logtest.BriefMembers(w.First)
	for _, one := range w.Slots[:min(8, len(w.Slots))] {
		s += "\n  up " + strconv.FormatBool(one.Up) + " " + replicatest.Brief(one.Replica)
	}
	return s + "\n  net: " + replicatest.BriefPackets(w.Net.Packets)
}

// anew holds 19.4 and P3: what is handed in stays as it was, the room behind its lists, too; asked again the answer is the same; and no two lists of all these share memory. And what becomes of a world is right, or nothing.
func anew(t *testing.T, what string, g given, call func(g given) told) told {
	t.Helper()
	got, wrong := memtest.Anew(g, kindOfGiven(), call, kindOfTold())
	if wrong != "" {
		t.Errorf("%s: %s", what, wrong)
	}
	if why := world.Check(got.W); why != api.OK && !same(got.W, api.World{}) {
		t.Errorf("%s: what became of it is not right: error %d, %s", what, got.Why, brief(got.W))
	}
	if got.Why != api.OK && len(got.Answers) > 0 {
		t.Errorf("%s: beside error %d there is %s", what, got.Why, replicatest.BriefAnswers(got.Answers))
	}
	return got
}

// The calls, each asked by anew.

func news(t *testing.T, what string, n int, first ...int) told {
	t.Helper()
	return anew(t, what, given{First: first}, func(g given) told {
		w, why := world.New(n, g.First)
		return told{W: w, Why: why}
	})
}

func do(t *testing.T, what string, w api.World, s api.WorldStep) told {
	t.Helper()
	return anew(t, what, given{W: w, S: s}, func(g given) told {
		w, l, why := world.Do(g.W, g.S)
		return told{w, l, why}
	})
}

func round(t *testing.T, what string, w api.World, draws ...int) told {
	t.Helper()
	return anew(t, what, given{W: w, Draws: draws}, func(g given) told {
		w, l, why := world.Round(g.W, g.Draws)
		return told{w, l, why}
	})
}

// holds holds all that is told against what is to be.
func holds(t *testing.T, what string, got, want told) {
	t.Helper()
	if !kindOfTold().Same(got, want) {
		t.Errorf("%s: error %d, %s, %s;\nnot error %d, %s, %s", what, got.Why, brief(got.W), replicatest.BriefAnswers(got.Answers), want.Why, brief(want.W), replicatest.BriefAnswers(want.Answers))
	}
}

// stays is of an error beside which the world is as it was.
func stays(t *testing.T, what string, got told, w api.World, why api.Errno) {
	t.Helper()
	holds(t, what, got, told{W: w, Why: why})
}

// Worlds that are put together.

func up(x api.Replica) api.Slot   { return api.Slot{Up: true, Replica: x} }
func down(x api.Replica) api.Slot { return api.Slot{Replica: fallen(x.Id, x.Disk)} }

func fallen(id int, d api.Disk) api.Replica { return api.Replica{Id: id, Disk: d} }

func of(slots ...api.Slot) api.World { return api.World{First: []int{1, 2, 3}, Slots: slots} }

func packet(from, to int, data string) api.Packet {
	return api.Packet{From: from, To: to, Data: data}
}

func fresh(id int) api.Replica { return replicatest.Fresh(id, 1, 2, 3) }

// some is of one that has nothing, one that leads, and one that fell, with packets to each, and to one that there is not.
func some() api.World {
	w := of(up(fresh(1)), up(replicatest.Leading()), down(api.Replica{Id: 3, Disk: disktest.Fused(replicatest.Following().Disk, 4)}))
	w.Net.Packets = []api.Packet{
		packet(1, 2, data(logtest.Appended(4, true, 7))),
		packet(2, 1, data(logtest.Ask(3, 9, 2))),
		packet(1, 3, data(logtest.Ask(3, 9, 2))),
		packet(3, 4, "?"),
		packet(3, 1, "?"),
	}
	return w
}

// full is w with as many packets under way as may be, but for so many.
func full(w api.World, but int) api.World {
	return with(w, func(w *api.World) {
		for len(w.Net.Packets) < api.MaxPackets-but {
			w.Net.Packets = append(w.Net.Packets, packet(6, 7, strconv.Itoa(len(w.Net.Packets))))
		}
	})
}

// fused is w with that fuse of one who is up.
func fused(w api.World, who, fuse int) api.World {
	return with(w, func(w *api.World) { w.Slots[who-1].Replica.Disk.Fuse = fuse })
}

// alongside is a world in which x, whoever it is, is what stands in its slot, and others are up or down.
func alongside(s api.Slot) api.World {
	var slots []api.Slot
	for id := 1; id < s.Replica.Id; id++ {
		slots = append(slots, []api.Slot{up(fresh(id)), down(fresh(id))}[id%2])
	}
	return of(append(slots, s)...)
}

// rights are worlds at all edges.
func rights() map[string]api.World {
	list := map[string]api.World{
		"some":                   some(),
		"one that has nothing":   of(up(fresh(1))),
		"one that fell":          of(down(fresh(1))),
		"no packets":             with(some(), func(w *api.World) { w.Net.Packets = nil }),
		"a full net":             full(some(), 0),
		"a net with room":        full(some(), 1),
		"First of another one":   with(some(), func(w *api.World) { w.First = []int{7} }),
		"First all":              with(some(), func(w *api.World) { w.First = []int{1, 2, 3, 4, 5, 6, 7} }),
		"all fell":               of(down(fresh(1)), down(fresh(2)), down(fresh(3)), down(fresh(4)), down(fresh(5)), down(fresh(6)), down(fresh(7))),
		"fell, with no power":    with(some(), func(w *api.World) { w.Slots[2].Replica.Disk.Down = true }),
		"fell, with any files":   with(some(), func(w *api.World) { w.Slots[2].Replica.Disk = disktest.With(disktest.Of(), disktest.Beside("hard")...) }),
		"fell, with full a disk": with(some(), func(w *api.World) { w.Slots[2].Replica.Disk = disktest.Of(disktest.Many(4096)...) }),
		"fell, with empty lists": with(some(), func(w *api.World) { w.Slots[2].Replica = withEmptyLists(w.Slots[2].Replica) }),
	}
	for n := 1; n <= 7; n++ {
		w, _ := world.New(n, []int{1, 2, 3})
		list["new, of "+strconv.Itoa(n)] = w
	}
	for what, x := range replicatest.Rights() {
		list["up: "+what] = alongside(up(x))
		list["down: "+what] = alongside(down(x))
	}
	return list
}

func withEmptyLists(x api.Replica) api.Replica {
	x.Raft = api.Raft{First: []int{}, Votes: []int{}, Peers: []api.Peer{}, Log: api.Log{Entries: []api.Entry{}}, Snap: api.Snap{Members: []int{}}}
	x.Ledger = api.Ledger{Book: api.Book{Nodes: []api.Node{}, Tasks: []api.Task{}, Binds: []api.Bind{}}, Clients: []api.Client{}}
	x.Waits = []api.Wait{}
	return x
}

// wrongs are worlds with a fault each.
func wrongs() map[string]api.World {
	eight := of()
	for id := range 8 {
		eight.Slots = append(eight.Slots, down(fresh(id+1)))
	}
	list := map[string]api.World{
		"nothing":               {},
		"no slots":              of(),
		"slots alone":           {Slots: some().Slots},
		"empty lists":           {First: []int{}, Slots: []api.Slot{}},
		"eight slots":           eight,
		"far too many":          of(slices.Repeat([]api.Slot{up(fresh(1))}, 1000)...),
		"a slot of nothing":     of(api.Slot{}),
		"at last one":           of(up(fresh(1)), api.Slot{}),
		"from Id 2 on":          of(up(fresh(2)), up(fresh(3))),
		"from Id 0 on":          of(down(fresh(0)), up(fresh(1))),
		"an Id twice":           of(up(fresh(1)), up(fresh(1))),
		"an Id twice, down":     of(down(fresh(1)), down(fresh(1))),
		"Ids fall":              of(up(fresh(2)), up(fresh(1))),
		"a leap":                of(up(fresh(1)), down(fresh(3))),
		"an Id of 32 bits":      of(down(fresh(1<<32 + 1))),
		"said to be up":         of(up(fallen(1, disktest.Of()))),
		"said to be down":       of(api.Slot{Replica: fresh(1)}),
		"one said to be up":     with(some(), func(w *api.World) { w.Slots[2].Up = true }),
		"one said to be down":   with(some(), func(w *api.World) { w.Slots[0].Up = false }),
		"one too many packets":  with(full(some(), 0), func(w *api.World) { w.Net.Packets = append(w.Net.Packets, packet(1, 2, "")) }),
		"a packet from itself":  with(some(), func(w *api.World) { w.Net.Packets[1] = packet(2, 2, "") }),
		"a packet from nobody":  with(some(), func(w *api.World) { w.Net.Packets[4] = packet(0, 2, "") }),
		"a packet to no one":    with(some(), func(w *api.World) { w.Net.Packets[0] = packet(2, 8, "") }),
		"the last is no packet": with(full(some(), 0), func(w *api.World) { w.Net.Packets[4095] = packet(2, -1, "") }),
	}
	for i, l := range append(logtest.WrongMembers(), nil) {
		list["First "+strconv.Itoa(i)] = with(some(), func(w *api.World) { w.First = l })
	}
	for what, x := range replicatest.Wrongs() {
		x.Id = min(7, max(1, x.Id)) // mends none of them
		if replica.Check(x) != api.OK {
			list["up: "+what] = alongside(up(x))
		}
	}
	for what, d := range disktest.Wrong(disktest.File("hard", "xy")) {
		list["down, a disk: "+what] = with(some(), func(w *api.World) { w.Slots[2].Replica.Disk = d })
	}
	for i, change := range somethingElse() {
		list["fell, but has something, "+strconv.Itoa(i)] = with(some(), func(w *api.World) { change(&w.Slots[2].Replica) })
	}
	return list
}

// somethingElse gives one that fell a single thing, in each of the fields that it is not to have.
func somethingElse() []func(x *api.Replica) {
	return []func(x *api.Replica){
		func(x *api.Replica) { x.Raft.Id = 3 },
		func(x *api.Replica) { x.Raft.First = []int{1} },
		func(x *api.Replica) { x.Raft.Term = most },
		func(x *api.Replica) { x.Raft.Vote = 1 },
		func(x *api.Replica) { x.Raft.Vote = -1 },
		func(x *api.Replica) { x.Raft.Role = api.RoleStand },
		func(x *api.Replica) { x.Raft.Leader = 1 },
		func(x *api.Replica) { x.Raft.Log.Base = 1 },
		func(x *api.Replica) { x.Raft.Log.BaseTerm = 1 },
		func(x *api.Replica) { x.Raft.Log.Entries = []api.Entry{{}} },
		func(x *api.Replica) { x.Raft.Snap.Index = 1 },
		func(x *api.Replica) { x.Raft.Snap.Term = 1 },
		func(x *api.Replica) { x.Raft.Snap.Members = []int{1} },
		func(x *api.Replica) { x.Raft.Snap.Data = "x" },
		func(x *api.Replica) { x.Raft.Commit = 1 },
		func(x *api.Replica) { x.Raft.Votes = []int{1} },
		func(x *api.Replica) { x.Raft.Peers = []api.Peer{{}} },
		func(x *api.Replica) { x.Raft.Wait = 1 },
		func(x *api.Replica) { x.Raft.Wait = -1 },
		func(x *api.Replica) { x.Ledger.Book.Nodes = []api.Node{{Name: "n"}} },
		func(x *api.Replica) { x.Ledger.Book.Tasks = []api.Task{{Name: "t"}} },
		func(x *api.Replica) { x.Ledger.Book.Binds = []api.Bind{{}} },
		func(x *api.Replica) { x.Ledger.Book.Fence = 1 },
		func(x *api.Replica) { x.Ledger.Clients = []api.Client{{Id: 1}} },
		func(x *api.Replica) { x.Done = 1 },
		func(x *api.Replica) { x.Waits = []api.Wait{{}} },
		func(x *api.Replica) { x.Raft = coretest.Fresh(3, 1, 2, 3) },
	}
}
