package replica_test

import (
	"math"
	"slices"
	"testing"

	"gaffer/api"
	"gaffer/coretest"
	"gaffer/disk"
	"gaffer/disktest"
	"gaffer/logtest"
	"gaffer/memtest"
	"gaffer/msg"
	"gaffer/ordertest"
	"gaffer/pack"
	"gaffer/replica"
	"gaffer/replicatest"
	"gaffer/snap"
	"gaffer/wal"
)

const most = math.MaxUint64

// What the tests of all that has entries, messages or replicas have.
var (
	lead      = logtest.Lead
	members   = logtest.Members
	ask       = logtest.Ask
	voted     = logtest.Voted
	appends   = logtest.Appends
	appended  = logtest.Appended
	install   = logtest.Install
	following = replicatest.Following
	standing  = replicatest.Standing
	leading   = replicatest.Leading
	fresh     = replicatest.Fresh
	alone     = replicatest.Alone
	with      = replicatest.With
	undone    = replicatest.Undone
	waiting   = replicatest.Waiting
	task      = replicatest.Task
	packed    = replicatest.Packed
	brief     = replicatest.Brief
)

// given are all lists that a call is handed, stepped is all that it tells; what it has not is zero.
type given struct {
	X       api.Replica
	First   []int
	D       api.Disk
	C       api.Command
	Members []int
}

type stepped struct {
	X       api.Replica
	Packets []api.Packet
	Answers []api.Answer
	Why     api.Errno
}

func kindOfGiven() memtest.Kind[given] {
	return memtest.Kind[given]{Visit: func(v *memtest.Visitor, g *given) {
		replicatest.Visit(v, &g.X)
		logtest.VisitMembers(v, &g.First)
		replicatest.VisitDisk(v, &g.D)
		ordertest.Visit(v, &g.C)
		logtest.VisitMembers(v, &g.Members)
	}}
}

func kindOfStepped() memtest.Kind[stepped] {
	return memtest.Kind[stepped]{
		Visit: func(v *memtest.Visitor, s *stepped) {
			replicatest.Visit(v, &s.X)
			replicatest.VisitPackets(v, &s.Packets)
			replicatest.VisitAnswers(v, &s.Answers)
		},
		Same: func(a, b stepped) bool {
			return replicatest.Same(a.X, b.X) && slices.Equal(a.Packets, b.Packets) && slices.Equal(a.Answers, b.Answers) && a.Why == b.Why
		},
	}
}

// anew holds 17.4 and P3: what is handed in stays as it was, the room behind its lists, too; asked again the answer is the same; and no two lists of all these share memory.
func anew(t *testing.T, what string, g given, call func(g given) stepped) stepped {
	t.Helper()
	got, wrong := memtest.Anew(g, kindOfGiven(), call, kindOfStepped())
	if wrong != "" {
		t.Errorf("%s: %s", what, wrong)
	}
	return got
}

// The calls, each asked by anew, and held against what goes for all of them.

func start(t *testing.T, what string, id int, first []int, d api.Disk, draw int) stepped {
	t.Helper()
	return sound(t, what, id, anew(t, what, given{First: first, D: d}, func(g given) stepped {
		x, why := replica.Start(id, g.First, g.D, draw)
		return stepped{X: x, Why: why}
	}))
}

func tick(t *testing.T, what string, x api.Replica, draw int) stepped {
	t.Helper()
	return sound(t, what, x.Id, anew(t, what, given{X: x}, func(g given) stepped {
		x, l, a, why := replica.Tick(g.X, draw)
		return stepped{x, l, a, why}
	}))
}

func take(t *testing.T, what string, x api.Replica, from int, data string, draw int) stepped {
	t.Helper()
	return sound(t, what, x.Id, anew(t, what, given{X: x}, func(g given) stepped {
		x, l, a, why := replica.Take(g.X, from, data, draw)
		return stepped{x, l, a, why}
	}))
}

func call(t *testing.T, what string, x api.Replica, c api.Command) stepped {
	t.Helper()
	return sound(t, what, x.Id, anew(t, what, given{X: x, C: c}, func(g given) stepped {
		x, l, a, why := replica.Call(g.X, g.C)
		return stepped{x, l, a, why}
	}))
}

func change(t *testing.T, what string, x api.Replica, list ...int) stepped {
	t.Helper()
	return sound(t, what, x.Id, anew(t, what, given{X: x, Members: list}, func(g given) stepped {
		x, l, a, why := replica.Change(g.X, g.Members)
		return stepped{x, l, a, why}
	}))
}

// sound holds 17.5: what becomes of a right one is right, or fallen, or it is told to be as it was beside an error; and that a packet is one's of the replica itself to another one.
func sound(t *testing.T, what string, id int, got stepped) stepped {
	t.Helper()
	if got.Why != api.OK && len(got.Packets)+len(got.Answers) > 0 {
		t.Errorf("%s: beside error %d there are %d packets, %d answers", what, got.Why, len(got.Packets), len(got.Answers))
	}
	if isFallen := replicatest.Same(got.X, api.Replica{Id: got.X.Id, Disk: got.X.Disk}) && got.Why != api.OK; !isFallen && replica.Check(got.X) != api.OK {
		t.Errorf("%s: what became of it is neither right nor fallen: error %d, %s", what, got.Why, brief(got.X))
	}
	for _, p := range got.Packets {
		m, why := msg.Decode(p.Data)
		if why != api.OK || p.From != id || p.To == id || p.To < 1 || p.To > api.MaxReplicas || m.Term != got.X.Raft.Term {
			t.Errorf("%s: what is sent is not right: %s", what, replicatest.BriefPackets(got.Packets))
		}
	}
	return got
}

// refused is of an error beside which all is zero.
func refused(t *testing.T, what string, got stepped, why api.Errno) {
	t.Helper()
	stays(t, what, got, api.Replica{}, why)
}

// stays is of an error beside which x is told as it was.
func stays(t *testing.T, what string, got stepped, x api.Replica, why api.Errno) {
	t.Helper()
	if got.Why != why || !replicatest.Same(got.X, x) {
		t.Errorf("%s: error %d, %s; not error %d, %s", what, got.Why, brief(got.X), why, brief(x))
	}
}

// becomes holds what became of a replica, but for its disk, what it sent, and what it answered, against what is to be.
func becomes(t *testing.T, what string, got stepped, want api.Replica, posts []api.Post, answers ...api.Answer) {
	t.Helper()
	want.Disk = got.X.Disk
	holds(t, what, got, stepped{X: want, Packets: packets(want.Id, posts...), Answers: answers})
}

// holds holds all that is told against what is to be.
func holds(t *testing.T, what string, got, want stepped) {
	t.Helper()
	if !kindOfStepped().Same(got, want) {
		t.Errorf("%s: error %d, %s, %s, %s;\nnot error %d, %s, %s, %s", what,
			got.Why, brief(got.X), replicatest.BriefPackets(got.Packets), replicatest.BriefAnswers(got.Answers),
			want.Why, brief(want.X), replicatest.BriefPackets(want.Packets), replicatest.BriefAnswers(want.Answers))
	}
}

// lasts holds what a call does to x's disk, whenever the power goes, against the changes that it is to do: before they are done the replica has fallen, and sends and answers nothing.
func lasts(t *testing.T, what string, x api.Replica, ask func(x api.Replica) stepped, list ...disktest.Call) {
	t.Helper()
	told := disktest.Differs(x.Disk, func(d api.Disk) (api.Disk, api.Errno) {
		y := replicatest.Clone(x)
		y.Disk = d
		got := ask(y)
		if got.Why != api.OK && (!replicatest.Same(got.X, api.Replica{Id: x.Id, Disk: got.X.Disk}) || len(got.Packets)+len(got.Answers) > 0) {
			t.Errorf("%s: beside error %d there is %s, %d packets, %d answers", what, got.Why, brief(got.X), len(got.Packets), len(got.Answers))
		}
		return got.X.Disk, got.Why
	}, list...)
	if told != "" {
		t.Errorf("%s: %s", what, told)
	}
}

// What is sent.

func to(id int, m api.Msg) api.Post { return api.Post{To: id, Msg: m} }

func packet(m api.Msg) string {
	data, _ := msg.Encode(m)
	return data
}

func packets(from int, posts ...api.Post) []api.Packet {
	var l []api.Packet
	for _, p := range posts {
		l = append(l, api.Packet{From: from, To: p.To, Data: packet(p.Msg)})
	}
	return l
}

// raft is x with a change of its Raft.
func raft(x api.Replica, change func(r *api.Raft)) api.Replica {
	x.Raft = coretest.With(x.Raft, change)
	return x
}

// Changes of the disk, one by one.

func adds(name, data string) disktest.Call {
	return func(d api.Disk) (api.Disk, api.Errno) { return disk.Add(d, name, data) }
}

func syncs(name string) disktest.Call {
	return func(d api.Disk) (api.Disk, api.Errno) { return disk.Sync(d, name) }
}

func cuts(name string, size int) disktest.Call {
	return func(d api.Disk) (api.Disk, api.Errno) { return disk.Cut(d, name, size) }
}

func drops(name string) disktest.Call {
	return func(d api.Disk) (api.Disk, api.Errno) { return disk.Drop(d, name) }
}

// puts are the changes by which those entries come into a segment, one behind the other.
func puts(name string, entries ...api.Entry) []disktest.Call {
	var list []disktest.Call
	for _, e := range entries {
		list = append(list, adds(name, frames(e)))
	}
	return append(list, syncs(name))
}

// frames are a segment's content.
func frames(entries ...api.Entry) string {
	s := ""
	for _, e := range entries {
		data, _ := wal.Encode(e)
		s += framed(data)
	}
	return s
}

func framed(payload string) string {
	f, _ := pack.Frame(payload)
	return f
}

// votes are the changes by which Term and Vote come to last.
func votes(x api.Replica, term uint64, vote int) []disktest.Call {
	return disktest.Rewrite(x.Disk, "hard", "hard.tmp", framed(pack.Number(term)+pack.Number(uint64(vote))))
}

// snaps are those by which a snapshot does.
func snaps(x api.Replica, s api.Snap) []disktest.Call {
	data, _ := snap.Encode(s)
	return disktest.Rewrite(x.Disk, "snap", "snap.tmp", framed(data))
}
