package replica_test

import (
	"slices"
	"strconv"
	"testing"

	"gaffer/api"
	"gaffer/coretest"
	"gaffer/disktest"
	"gaffer/ledger"
	"gaffer/logtest"
	"gaffer/replicatest"
)

func ticks(t *testing.T, what string, draw int) func(x api.Replica) stepped {
	return func(x api.Replica) stepped { return tick(t, what, x, draw) }
}

// 17.2: a draw below 0 is refused ahead of all, even of a snapshot; the replica stays as it was.
func TestTickDraw(t *testing.T) {
	list := map[string]api.Replica{"follows": following(), "stands": standing(), "leads": leading(), "with Waits": waiting(following(), 4, 6, 7), "to be trimmed": long(16, 16)}
	for what, x := range list {
		for _, draw := range []int{-1, -64, -1 << 63} {
			stays(t, what, tick(t, what, x, draw), x, api.ErrRange)
		}
	}
}

// 17.2: one that waits waits on: nothing is kept, nothing sent.
func TestTickWaits(t *testing.T) {
	for what, x := range map[string]api.Replica{"of nothing": fresh(1, 1, 2), "follows": following(), "stands": standing()} {
		want := raft(x, func(r *api.Raft) { r.Wait-- })
		holds(t, what, tick(t, what, x, 5), stepped{X: want})
		lasts(t, what, x, ticks(t, what, 5))
	}
}

// 17.2: one that stands keeps its Term and its Vote ahead of asking.
func TestTickStands(t *testing.T) {
	x := raft(following(), func(r *api.Raft) { r.Wait = 1 })
	want := raft(x, func(r *api.Raft) {
		r.Term, r.Vote, r.Role, r.Leader, r.Votes, r.Wait = 5, 2, api.RoleStand, 0, []int{2}, 17
	})
	becomes(t, "stands", tick(t, "stands", x, 7), want, []api.Post{to(1, ask(5, 7, 4)), to(3, ask(5, 7, 4)), to(5, ask(5, 7, 4))})
	lasts(t, "stands", x, ticks(t, "stands", 7), votes(x, 5, 2)...)
	again := raft(want, func(r *api.Raft) { r.Wait = 0 })
	lasts(t, "stands again", again, ticks(t, "stands again", 7), votes(again, 6, 2)...)
	left := with(x, func(x *api.Replica) { x.Disk = disktest.With(x.Disk, disktest.File("hard.tmp", "?")) })
	lasts(t, "of a Save that was not done", left, ticks(t, "of a Save that was not done", 7), votes(left, 5, 2)...)
}

// 17.2: one that is alone leads behind its wait, and settles at once; an EntryLead is what the ledger is led by.
func TestTickLeads(t *testing.T) {
	x := raft(fresh(1, 1), func(r *api.Raft) { r.Wait = 1 })
	e := lead(1, 1)
	want := raft(x, func(r *api.Raft) {
		r.Term, r.Vote, r.Role, r.Leader, r.Wait, r.Log.Entries, r.Commit = 1, 1, api.RoleLead, 1, 10, []api.Entry{e}, 1
	})
	want.Done, want.Ledger.Book.Fence = 1, 1
	becomes(t, "alone", tick(t, "alone", x, 0), want, nil)
	lasts(t, "alone", x, ticks(t, "alone", 0), slices.Concat(votes(x, 1, 1), puts("w/0000000000000001", e))...)
	x = lonely(following())
	got := tick(t, "with some", x, 0)
	want = raft(x, func(r *api.Raft) {
		r.Term, r.Vote, r.Role, r.Leader, r.Wait, r.Commit = 5, 2, api.RoleLead, 2, 10, 8
		r.Log.Entries = append(r.Log.Entries, lead(8, 5))
	})
	want.Ledger, want.Done = replicatest.Folded(x.Ledger, want.Raft.Log.Entries[3:]...), 8
	becomes(t, "with some", got, want, nil)
	if got.X.Ledger.Book.Fence != 5 {
		t.Errorf("with some: %s", brief(got.X))
	}
	lasts(t, "with some", x, ticks(t, "with some", 0), slices.Concat(votes(x, 5, 2), puts("w/0000000000000007", lead(8, 5)))...)
}

// lonely is x as the only member, whose wait is at its end.
func lonely(x api.Replica) api.Replica {
	return replicatest.Of(coretest.With(x.Raft, func(r *api.Raft) {
		r.Wait, r.Log.Entries[1].Members, r.Log.Entries[3].Members = 0, []int{2}, []int{2}
	}))
}

// 17.2: one that leads, with its end not done, sends to all peers; nothing is kept.
func TestTickSends(t *testing.T) {
	x := leading() // peers 1: next 8; 3: next 6; 5: next 2
	l := x.Raft.Log.Entries
	posts := []api.Post{to(1, appends(4, 7, 4, 5)), to(3, appends(4, 5, 2, 5, l[3], l[4])), to(5, install(4, x.Raft.Snap))}
	for done := uint64(2); done <= 5; done++ {
		y := undone(x, done)
		want := undone(x, 5)
		want.Waits = nil
		becomes(t, "leads", tick(t, "leads", y, 0), want, posts)
		lasts(t, "leads", y, ticks(t, "leads", 0))
	}
}

// settled is leading, but that all is settled, and done.
func settled() api.Replica {
	return replicatest.Of(coretest.With(coretest.Leading(), func(r *api.Raft) { r.Commit = 7 }))
}

// binds are the entries of a plan of a Term from an Index on: of pairs of a task and a node.
func binds(index, term uint64, names ...string) []api.Entry {
	var l []api.Entry
	for i := 0; i < len(names); i += 2 {
		o := api.Order{Kind: api.OrderBind, Name: names[i], On: names[i+1], Fence: term}
		l = append(l, replicatest.Order(index+uint64(i/2), term, 0, 0, o))
	}
	return l
}

// 17.2: one that leads, with its end done, proposes its plan, with its Term as Fence, as a command of nobody; what is sent by that stands behind what the tick sends.
func TestTickPlans(t *testing.T) {
	x := settled()
	l := x.Raft.Log.Entries
	e := binds(8, 4, "d", "l") // of State
	want := raft(x, func(r *api.Raft) { r.Log.Entries = append(r.Log.Entries, e...) })
	becomes(t, "a step", tick(t, "a step", x, 0), want, []api.Post{
		to(1, appends(4, 7, 4, 7)), to(3, appends(4, 5, 2, 7, l[3], l[4])), to(5, install(4, x.Raft.Snap)),
		to(1, appends(4, 7, 4, 7, e...)), to(3, appends(4, 5, 2, 7, l[3], l[4], e[0])), to(5, install(4, x.Raft.Snap)),
	})
	lasts(t, "a step", x, ticks(t, "a step", 0), puts("w/0000000000000007", e...)...)
}

// cluster has nodes and tasks of which each task can be on each node; four nodes have room for three tasks each.
func cluster(tasks int) api.Ledger {
	var l api.Ledger
	for i := range 4 {
		l.Book.Nodes = append(l.Book.Nodes, api.Node{Name: "n" + strconv.Itoa(i), Has: [api.Kinds]int64{3}})
	}
	for i := range tasks {
		l.Book.Tasks = append(l.Book.Tasks, api.Task{Name: "t" + strconv.Itoa(10+i), Needs: [api.Kinds]int64{1}})
	}
	return l
}

// 17.2: a plan of none, of several steps, of no more than MaxBatch: each is an entry, and is sent by itself.
func TestTickPlansSeveral(t *testing.T) {
	for tasks, steps := range map[int]int{0: 0, 1: 1, 2: 2, 7: 7, 8: 8, 9: 8, 12: 8, 20: 8} {
		x := settled()
		x.Ledger = cluster(tasks)
		x.Raft.Peers = []api.Peer{{Id: 1, Next: 8, Match: 7}}
		var names []string
		for i := range steps {
			names = append(names, "t"+strconv.Itoa(10+i), "n"+strconv.Itoa(i/3)) // the fullest node is the best
		}
		e := binds(8, 4, names...)
		posts := []api.Post{to(1, appends(4, 7, 4, 7))}
		for i := range e {
			posts = append(posts, to(1, appends(4, 7, 4, 7, e[:i+1]...)))
		}
		what := strconv.Itoa(tasks) + " tasks"
		becomes(t, what, tick(t, what, x, 0), raft(x, func(r *api.Raft) { r.Log.Entries = append(r.Log.Entries, e...) }), posts)
	}
}

// 17.2: one that is alone settles its plan at once: all of it is done within the tick, and no more is planned.
func TestTickPlansAlone(t *testing.T) {
	x := alone()
	x.Ledger = cluster(12)
	x.Ledger.Book.Fence = 1
	got := tick(t, "alone", x, 0)
	want := raft(x, func(r *api.Raft) {
		r.Log.Entries, r.Commit = append(r.Log.Entries, binds(2, 1, "t10", "n0", "t11", "n0", "t12", "n0", "t13", "n1", "t14", "n1", "t15", "n1", "t16", "n2", "t17", "n2")...), 9
	})
	want.Ledger, want.Done = replicatest.Folded(x.Ledger, want.Raft.Log.Entries[1:]...), 9
	becomes(t, "alone", got, want, nil)
	if n := len(got.X.Ledger.Book.Binds); n != 8 {
		t.Errorf("alone: %d binds", n)
	}
	lasts(t, "alone", x, ticks(t, "alone", 0), slices.Concat(puts("w/0000000000000001", want.Raft.Log.Entries[1:4]...), puts("w/0000000000000005", want.Raft.Log.Entries[4:8]...), puts("w/0000000000000009", want.Raft.Log.Entries[8:]...))...)
	next := tick(t, "alone, again", got.X, 0).X
	if n := len(next.Ledger.Book.Binds); n != 12 || next.Done != 13 {
		t.Errorf("alone, again: %d binds, %s", n, brief(next))
	}
	holds(t, "alone, at last", tick(t, "alone, at last", next, 0), stepped{X: next})
}

// 17.2: no plan of one that does not lead, whose end is not done, or is of another Term.
func TestTickPlansNot(t *testing.T) {
	for what, one := range map[string]func(x *api.Replica){
		"follows":          func(x *api.Replica) { x.Raft.Role = api.RoleFollow },
		"stands":           func(x *api.Replica) { x.Raft.Role = api.RoleStand },
		"an elder Term":    func(x *api.Replica) { x.Raft.Term = 5 },
		"a Commit below":   func(x *api.Replica) { x.Raft.Commit, x.Done = 6, 6 },
		"Done below":       func(x *api.Replica) { *x = undone(*x, 6) },
		"Done at the Base": func(x *api.Replica) { *x = undone(*x, 2) },
	} {
		x := settled()
		one(&x)
		got := tick(t, what, x, 0)
		if end := len(got.X.Raft.Log.Entries); got.Why != api.OK || end != 5 {
			t.Errorf("%s: error %d, %s", what, got.Why, brief(got.X))
		}
		lasts(t, what, x, ticks(t, what, 0))
	}
	x := settled() // what is done in a tick is planned for in the next one
	x = undone(x, 6)
	if got := tick(t, "then", tick(t, "Done below", x, 0).X, 0).X; len(got.Raft.Log.Entries) != 6 {
		t.Errorf("then: %s", brief(got))
	}
}

// P1: a plan for which there is no room, or not for all of it.
func TestTickPlansNoRoom(t *testing.T) {
	for room := range uint64(4) {
		x := replicatest.Of(coretest.With(coretest.Ended(coretest.Leading(), api.MaxNumber-room), func(r *api.Raft) { r.Commit++ }))
		x.Raft.Term = 3
		x.Ledger = cluster(9)
		if got := tick(t, "no room", x, 0).X; endOf(got.Raft.Log) > api.MaxNumber {
			t.Errorf("no room: %s", brief(got))
		}
	}
}

// 17.2: the Fence of a plan is the Term, whatever the book's is.
func TestTickFence(t *testing.T) {
	for _, fence := range []uint64{0, 4, 9, most} {
		x := settled()
		x.Ledger.Book.Fence = fence
		got := tick(t, "a fence", x, 0).X.Raft.Log.Entries
		if !logtest.SameEntries(got[5:], binds(8, 4, "d", "l")) {
			t.Errorf("fence %d: %s", fence, logtest.BriefEntries(got))
		}
	}
}

// long is following, with 11 to 30 behind a snapshot of 10, of which so many are settled, and done.
func long(settled, done uint64) api.Replica { return replicatest.Long(following(), settled, done) }

// trimmed is x with all up to a done entry in a snapshot.
func trimmed(x api.Replica, upto uint64) api.Replica {
	data, _ := ledger.Pack(undone(x, upto).Ledger)
	return raft(x, func(r *api.Raft) {
		r.Snap = api.Snap{Index: upto, Term: 3, Members: []int{1, 2, 3}, Data: data}
		r.Log = api.Log{Base: upto, BaseTerm: 3, Entries: r.Log.Entries[upto-r.Log.Base:]}
	})
}

// 17.2: SnapEvery behind the Base all that is done goes into a snapshot, and no more than that; one less, and nothing does.
func TestTickTrims(t *testing.T) {
	for commit := uint64(0); commit <= 20; commit++ {
		for done := uint64(0); done <= commit; done++ {
			x := long(commit, done)
			want := raft(undone(x, 10+commit), func(r *api.Raft) { r.Wait-- })
			var list []disktest.Call
			if done >= 16 {
				want = trimmed(want, 10+done)
				list = slices.Concat(snaps(x, want.Raft.Snap), []disktest.Call{drops("w/000000000000000b"), drops("w/000000000000000f"), drops("w/0000000000000013"), drops("w/0000000000000017")})
			}
			what := "settled " + strconv.FormatUint(commit, 10) + ", done " + strconv.FormatUint(done, 10)
			becomes(t, what, tick(t, what, x, 0), want, nil)
			lasts(t, what, x, ticks(t, what, 0), list...)
		}
	}
}

// 17.2: all is trimmed but the last segment, which the log goes on behind.
func TestTickTrimsAll(t *testing.T) {
	x := long(20, 20)
	got := tick(t, "all", x, 0)
	want := trimmed(raft(x, func(r *api.Raft) { r.Wait-- }), 30)
	becomes(t, "all", got, want, nil)
	if len(got.X.Raft.Log.Entries) != 0 {
		t.Errorf("all: %s", brief(got.X))
	}
	more := row(31, 3, 2)
	then := take(t, "more", got.X, 1, packet(appends(4, 30, 3, 30, more...)), 0)
	lasts(t, "more", got.X, func(x api.Replica) stepped {
		return take(t, "more", x, 1, packet(appends(4, 30, 3, 30, more...)), 0)
	}, slices.Concat([]disktest.Call{syncs("w/000000000000001b")}, puts("w/000000000000001f", more...))...)
	again := start(t, "again", 2, x.Raft.First, then.X.Disk, 0)
	if again.Why != api.OK || !logtest.SameLog(again.X.Raft.Log, then.X.Raft.Log) || again.X.Done != 30 {
		t.Errorf("again: error %d, %s", again.Why, brief(again.X))
	}
}

// 17.2: a snapshot is a step of its own: what it answers is told to nobody, and what is settled then is done ahead of the plan.
func TestTickTrimsFirst(t *testing.T) {
	x := waiting(long(18, 16), 3, 27, 28, 29)
	want := trimmed(raft(undone(x, 28), func(r *api.Raft) { r.Wait-- }), 26)
	want.Waits = x.Waits[2:]
	becomes(t, "Waits", tick(t, "Waits", x, 0), want, nil)
	x = waiting(long(18, 15), 3, 26, 27, 29)
	want = raft(undone(x, 28), func(r *api.Raft) { r.Wait-- })
	want.Waits = x.Waits[2:]
	becomes(t, "Waits, and no snapshot", tick(t, "Waits, and no snapshot", x, 0), want, nil, api.Answer{Client: 26, Seq: 126}, api.Answer{Client: 27, Seq: 127})
}

// 17.2: one that leads makes a snapshot, stands behind it, and plans of what is done then, all in one tick.
func TestTickTrimsAndPlans(t *testing.T) {
	x := leads(long(20, 20))
	e := binds(31, 3, "d", "l")
	want := raft(trimmed(x, 30), func(r *api.Raft) { r.Log.Entries = e })
	s := want.Raft.Snap
	becomes(t, "both", tick(t, "both", x, 0), want, []api.Post{to(1, appends(3, 30, 3, 30)), to(3, install(3, s)), to(1, appends(3, 30, 3, 30, e...)), to(3, install(3, s))})
	segments := []disktest.Call{drops("w/000000000000000b"), drops("w/000000000000000f"), drops("w/0000000000000013"), drops("w/0000000000000017")}
	lasts(t, "both", x, ticks(t, "both", 0), slices.Concat(snaps(x, s), segments, []disktest.Call{syncs("w/000000000000001b")}, puts("w/000000000000001f", e...))...)
	x = leads(long(20, 17)) // in the first step the others are done
	want = raft(undone(trimmed(x, 27), 30), func(r *api.Raft) { r.Log.Entries = append(r.Log.Entries, e...) })
	s = want.Raft.Snap
	becomes(t, "both, of some", tick(t, "both, of some", x, 0), want, []api.Post{to(1, appends(3, 30, 3, 30)), to(3, install(3, s)), to(1, appends(3, 30, 3, 30, e...)), to(3, install(3, s))})
}

// leads is x as the leader of Term 3; one peer has all, one nothing.
func leads(x api.Replica) api.Replica {
	return raft(x, func(r *api.Raft) {
		r.Term, r.Vote, r.Role, r.Leader = 3, 2, api.RoleLead, 2
		r.Peers = []api.Peer{{Id: 1, Next: 31, Match: 30}, {Id: 3, Next: 10}}
	})
}

// 17.2: what a tick does of all replicas at all edges, held against the model.
func TestTickOfAll(t *testing.T) {
	t.Parallel()
	planned, trimmed := 0, 0
	for what, x := range replicatest.Rights() {
		got := tick(t, what, x, 9)
		holds(t, what, got, modelTick(x, 9))
		if got.X.Raft.Role == x.Raft.Role && endOf(got.X.Raft.Log) > endOf(x.Raft.Log) {
			planned++
		}
		if got.X.Raft.Log.Base > x.Raft.Log.Base {
			trimmed++
		}
	}
	if planned < 5 || trimmed < 5 {
		t.Errorf("only %d planned, %d trimmed", planned, trimmed)
	}
}
