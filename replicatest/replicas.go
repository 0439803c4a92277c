// Package replicatest is for tests alone: replicas to ask a layer with, right ones and wrong ones, and what its answers are held against.
package replicatest

import (
	"math"
	"slices"
	"strconv"

	"gaffer/api"
	"gaffer/coretest"
	"gaffer/disktest"
	"gaffer/hard"
	"gaffer/ledger"
	"gaffer/ledgertest"
	"gaffer/logtest"
	"gaffer/order"
	"gaffer/snap"
	"gaffer/wal"
)

const most = math.MaxUint64

// State is what a snapshot of a replica's is made of, if nothing else is said: of its tasks d waits, and can be on the node l alone, and f waits, and can be nowhere.
func State() api.Ledger {
	return ledgertest.With(func(l *api.Ledger) { l.Book.Fence = 1 })
}

// Packed is a snapshot's Data; of ledgers that are not right it is empty.
func Packed(l api.Ledger) string {
	data, _ := ledger.Pack(l)
	return data
}

// Order is an entry of a command; of one that is not right its Data is empty.
func Order(index, term, client, seq uint64, o api.Order) api.Entry {
	data, _ := order.Encode(api.Command{Client: client, Seq: seq, Order: o})
	return logtest.Order(index, term, data)
}

// Kept is a disk on which r lasts, and nothing else; no fuse is set.
func Kept(r api.Raft) api.Disk {
	d, _ := disktest.Row(disktest.Of(),
		func(d api.Disk) (api.Disk, api.Errno) {
			return hard.Save(d, api.Hard{Term: r.Term, Vote: r.Vote})
		},
		func(d api.Disk) (api.Disk, api.Errno) { return snap.Save(d, r.Snap) },
		func(d api.Disk) (api.Disk, api.Errno) { return wal.Append(d, r.Log.Entries) },
	)
	return d
}

// Folded is what entries make of l.
func Folded(l api.Ledger, entries ...api.Entry) api.Ledger {
	for _, e := range entries {
		switch e.Kind {
		case api.EntryLead:
			l, _ = ledger.Lead(l, e.Term)
		case api.EntryOrder:
			l, _ = ledger.Apply(l, e.Data)
		}
	}
	return l
}

// Of is a replica of that Raft, with all that is settled done; it lasts on its disk. The snapshot's Data, if there is one, is State's, and each order of the log is one of client 9 for a task of its own.
func Of(r api.Raft) api.Replica {
	r = coretest.Clone(r)
	l := api.Ledger{}
	if r.Snap.Index > 0 {
		l = State()
		r.Snap.Data = Packed(l)
	}
	for i, e := range r.Log.Entries {
		if e.Kind == api.EntryOrder {
			r.Log.Entries[i] = Task(e.Index, e.Term)
		}
	}
	return api.Replica{Id: r.Id, Disk: Kept(r), Raft: r, Ledger: Folded(l, r.Log.Entries[:r.Commit-r.Log.Base]...), Done: r.Commit}
}

// Task is an order of client 9 for a task, which nothing needs; of Seq and name it is the Index.
func Task(index, term uint64) api.Entry {
	name := "task-" + strconv.FormatUint(index, 10)
	return Order(index, term, 9, index, api.Order{Kind: api.OrderTask, Task: api.Task{Name: name, Needs: [api.Kinds]int64{99, 99, 99}}})
}

// Following, Standing and Leading are of coretest's, whose log has 3 to 7, of Terms 1, 2, 2, 4 and 4, of which 3 and 7 are orders, and whose Commit is 5.
func Following() api.Replica { return Of(coretest.Following()) }
func Standing() api.Replica  { return Of(coretest.Standing()) }
func Leading() api.Replica   { return Of(coretest.Leading()) }

// Fresh is one that starts of nothing.
func Fresh(id int, first ...int) api.Replica {
	return api.Replica{Id: id, Disk: disktest.Of(), Raft: coretest.Fresh(id, first...)}
}

// Alone is one that leads as the only member; it has such a log, in which all is settled and done.
func Alone(entries ...api.Entry) api.Replica {
	return Of(coretest.With(coretest.Fresh(1, 1), func(r *api.Raft) {
		r.Term, r.Vote, r.Role, r.Leader, r.Wait = 1, 1, api.RoleLead, 1, 0
		r.Log.Entries = append([]api.Entry{logtest.Lead(1, 1)}, entries...)
		r.Commit = uint64(len(r.Log.Entries))
	}))
}

// With is x with a change.
func With(x api.Replica, change func(x *api.Replica)) api.Replica {
	x = Clone(x)
	change(&x)
	return x
}

// Undone is x with no more done than so many, but right: the state is the snapshot's, and what those make of it.
func Undone(x api.Replica, done uint64) api.Replica {
	l := api.Ledger{}
	if x.Raft.Snap.Index > 0 {
		l, _ = ledger.Unpack(x.Raft.Snap.Data)
	}
	x = Clone(x)
	x.Ledger, x.Done = Folded(l, x.Raft.Log.Entries[:done-x.Raft.Log.Base]...), done
	return x
}

// Waiting is x with Waits for those Indexes, each of that Term, of the Index as client, and a Seq above it.
func Waiting(x api.Replica, term uint64, indexes ...uint64) api.Replica {
	x = Clone(x)
	for _, index := range indexes {
		x.Waits = append(x.Waits, api.Wait{Index: index, Term: term, Client: index, Seq: index + 100})
	}
	return x
}

// Long is x with 11 to 30 behind a snapshot of 10, all of Term 3, of which so many are settled, and so many done.
func Long(x api.Replica, settled, done uint64) api.Replica {
	r := coretest.Holding(x.Raft, logtest.Row(10, 2, slices.Repeat([]uint64{3}, 20)...))
	for i, e := range r.Log.Entries {
		r.Log.Entries[i] = Task(e.Index, e.Term)
	}
	r.Commit = 10 + settled
	return Undone(Of(r), 10+done)
}

// leader is x, led by itself in the Term of its last entry; of its peers one has all, one nothing.
func leader(x api.Replica) api.Replica {
	x.Raft.Term, x.Raft.Role, x.Raft.Vote, x.Raft.Leader = 3, api.RoleLead, x.Id, x.Id
	x.Raft.Peers = []api.Peer{{Id: 1, Next: 31, Match: 30}, {Id: 3, Next: 10}}
	return x
}

func between(from, to uint64) []uint64 {
	var l []uint64
	for n := from + 1; n <= to; n++ {
		l = append(l, n)
	}
	return l
}

// roles are one of each Role.
func roles() map[string]api.Replica {
	return map[string]api.Replica{"follows": Following(), "stands": Standing(), "leads": Leading()}
}

// Rights are replicas at all edges. On the disks of some there is not what they know.
func Rights() map[string]api.Replica {
	list := map[string]api.Replica{
		"of nothing":       Fresh(1, 1, 2, 3),
		"alone":            Alone(),
		"alone, with some": Alone(Task(2, 1), Task(3, 1)),
		"empty lists":      {Id: 1, Raft: coretest.Fresh(1, 1), Waits: []api.Wait{}},
	}
	for what, r := range coretest.Rights() {
		list["of a Raft: "+what] = api.Replica{Id: r.Id, Disk: Kept(r), Raft: r, Ledger: State(), Done: r.Commit}
		list["of a Raft, with orders: "+what] = Of(r)
	}
	for role, x := range roles() {
		for what, change := range rightChanges() {
			list[role+", "+what] = With(x, change)
		}
		for done := x.Raft.Log.Base; done <= x.Raft.Commit; done++ {
			list[role+", done "+strconv.FormatUint(done, 10)] = Undone(x, done)
		}
		for _, settled := range []uint64{15, 16, 17, 20} {
			for _, done := range []uint64{0, 15, 16, 17, 20} {
				if done <= settled {
					n := ", settled " + strconv.FormatUint(settled, 10) + ", done " + strconv.FormatUint(done, 10)
					long := Waiting(Long(x, settled, done), 3, between(10+done, min(30, 10+settled+2))...)
					list[role+", long"+n] = long
					list[role+", but leads its Term, long"+n] = leader(long)
				}
			}
		}
	}
	for what, l := range ledgertest.Rights() {
		list["a ledger: "+what] = With(Following(), func(x *api.Replica) { x.Ledger = l })
	}
	return list
}

func rightChanges() map[string]func(x *api.Replica) {
	return map[string]func(x *api.Replica){
		"as it is":               func(x *api.Replica) {},
		"a fuse at its end":      func(x *api.Replica) { x.Disk.Fuse = 0 },
		"a fuse":                 func(x *api.Replica) { x.Disk.Fuse = 3 },
		"other files":            func(x *api.Replica) { x.Disk = disktest.With(x.Disk, disktest.Beside("hard")[:4]...) },
		"no files":               func(x *api.Replica) { x.Disk.Files = nil },
		"another one's log":      func(x *api.Replica) { x.Disk = disktest.With(x.Disk, disktest.File("w/?", "?")) },
		"a snapshot of no state": func(x *api.Replica) { x.Raft.Snap.Data = "state" },
		"nothing done":           func(x *api.Replica) { x.Done = x.Raft.Log.Base },
		"a Wait":                 func(x *api.Replica) { *x = Waiting(*x, 4, 6) },
		"a Wait at the end":      func(x *api.Replica) { *x = Waiting(*x, 4, 7) },
		"Waits":                  func(x *api.Replica) { *x = Waiting(*x, 4, 6, 7) },
		"Waits of all":           func(x *api.Replica) { *x = Waiting(Undone(*x, 2), 2, 3, 4, 5, 6, 7) },
		"a Wait of no Term":      func(x *api.Replica) { x.Waits = []api.Wait{{Index: 6}} },
		"a Wait of another Term": func(x *api.Replica) { x.Waits = []api.Wait{{Index: 6, Term: most, Client: most, Seq: most}} },
		"one client's Waits": func(x *api.Replica) {
			x.Waits = []api.Wait{{Index: 6, Term: 4, Client: 2, Seq: 3}, {Index: 7, Term: 4, Client: 2, Seq: 3}}
		},
	}
}

// Wrongs are replicas with a fault each.
func Wrongs() map[string]api.Replica {
	list := map[string]api.Replica{
		"nothing":             {},
		"fallen":              {Id: 2, Disk: Following().Disk},
		"fallen, of no files": {Id: 1},
	}
	for role, x := range roles() {
		for what, change := range wrongChanges() {
			list[role+", "+what] = With(x, change)
		}
	}
	for what, d := range disktest.Wrong(disktest.File("hard", "xy")) {
		list["a disk: "+what] = With(Following(), func(x *api.Replica) { x.Disk = d })
	}
	for what, r := range coretest.Wrongs() {
		list["a Raft: "+what] = api.Replica{Id: r.Id, Disk: disktest.Of(), Raft: r, Done: r.Commit}
	}
	for what, l := range ledgertest.Wrongs() {
		list["a ledger: "+what] = With(Following(), func(x *api.Replica) { x.Ledger = l })
	}
	return list
}

func wrongChanges() map[string]func(x *api.Replica) {
	list := map[string]func(x *api.Replica){
		"no power":             func(x *api.Replica) { x.Disk.Down = true },
		"another Id":           func(x *api.Replica) { x.Id = 3 },
		"no Id":                func(x *api.Replica) { x.Id = 0 },
		"the Raft of another":  func(x *api.Replica) { x.Raft.Id, x.Raft.Peers = 3, nil },
		"Done below the Base":  func(x *api.Replica) { x.Done = 1 },
		"nothing done":         func(x *api.Replica) { x.Done = 0 },
		"Done above Commit":    func(x *api.Replica) { x.Done = 6 },
		"Done at the end":      func(x *api.Replica) { x.Done = 7 },
		"Done above the end":   func(x *api.Replica) { x.Done = 8 },
		"Done far above":       func(x *api.Replica) { x.Done = most },
		"Commit below Done":    func(x *api.Replica) { x.Raft.Commit = 4 },
		"an empty Wait":        func(x *api.Replica) { x.Waits = []api.Wait{{}} },
		"Waits that fall":      func(x *api.Replica) { *x = Waiting(*x, 4, 7, 6) },
		"Waits that fall, all": func(x *api.Replica) { *x = Waiting(Undone(*x, 2), 4, 3, 5, 4, 6) },
		"a Wait twice":         func(x *api.Replica) { *x = Waiting(*x, 4, 6, 6) },
		"the last Wait twice":  func(x *api.Replica) { *x = Waiting(*x, 4, 6, 7, 7) },
		"of one Index":         func(x *api.Replica) { *x = Waiting(Waiting(*x, 4, 6), 5, 6) },
	}
	for _, index := range []uint64{0, 1, 2, 4, 5, 8, 9, 1 << 32, 1<<32 + 6, most} {
		n := strconv.FormatUint(index, 10)
		list["a Wait of "+n] = func(x *api.Replica) { *x = Waiting(*x, 4, index) }
		if index > 7 {
			list["at last a Wait of "+n] = func(x *api.Replica) { *x = Waiting(*x, 4, 6, index) }
		}
	}
	return list
}
