package replica_test

import (
	"slices"

	"gaffer/api"
	"gaffer/core"
	"gaffer/disktest"
	"gaffer/hard"
	"gaffer/ledger"
	"gaffer/logtest"
	"gaffer/msg"
	"gaffer/order"
	"gaffer/replicatest"
	"gaffer/sched"
	"gaffer/snap"
	"gaffer/wal"
)

// The chapter's words, one by one, of right replicas: Index by Index, and Wait by Wait.

func endOf(l api.Log) uint64 { return l.Base + uint64(len(l.Entries)) }

// entryAt is a zero one, which none is, if there is none.
func entryAt(l api.Log, index uint64) api.Entry {
	if index <= l.Base || index > endOf(l) {
		return api.Entry{}
	}
	return l.Entries[index-l.Base-1]
}

// hasBase tells whether was has now's Base.
func hasBase(was, now api.Log) bool {
	if now.Base == was.Base {
		return now.BaseTerm == was.BaseTerm
	}
	e := entryAt(was, now.Base)
	return e.Index == now.Base && e.Term == now.BaseTerm
}

// keep are the changes of the disk that a step does.
func keep(was, now api.Raft) []disktest.Call {
	var list []disktest.Call
	change := func(when bool, call disktest.Call) {
		if when {
			list = append(list, call)
		}
	}
	cut := func(from uint64) disktest.Call {
		return func(d api.Disk) (api.Disk, api.Errno) { return wal.Cut(d, from) }
	}
	put := func(l []api.Entry) disktest.Call {
		return func(d api.Disk) (api.Disk, api.Errno) { return wal.Append(d, l) }
	}
	change(was.Term != now.Term || was.Vote != now.Vote, func(d api.Disk) (api.Disk, api.Errno) {
		return hard.Save(d, api.Hard{Term: now.Term, Vote: now.Vote})
	})
	change(was.Snap.Index != now.Snap.Index, func(d api.Disk) (api.Disk, api.Errno) { return snap.Save(d, now.Snap) })
	if hasBase(was.Log, now.Log) {
		at := now.Log.Base + 1
		for at <= endOf(now.Log) && logtest.SameEntry(entryAt(was.Log, at), entryAt(now.Log, at)) {
			at++
		}
		change(at <= endOf(was.Log), cut(at))
		change(at <= endOf(now.Log), put(now.Log.Entries[at-now.Log.Base-1:]))
	} else {
		change(true, cut(1))
		change(true, put(now.Log.Entries))
	}
	change(was.Log.Base != now.Log.Base, func(d api.Disk) (api.Disk, api.Errno) { return wal.Trim(d, now.Log.Base) })
	return list
}

// does does what is settled.
func does(x *api.Replica) []api.Answer {
	var answers []api.Answer
	none := func(gone func(w api.Wait) bool) { x.Waits = slices.DeleteFunc(slices.Clone(x.Waits), gone) }
	if x.Done < x.Raft.Log.Base {
		x.Ledger, _ = ledger.Unpack(x.Raft.Snap.Data)
		x.Done = x.Raft.Log.Base
		none(func(w api.Wait) bool { return w.Index <= x.Done })
	}
	for x.Done < x.Raft.Commit {
		e := entryAt(x.Raft.Log, x.Done+1)
		told := api.Told{}
		switch e.Kind {
		case api.EntryLead:
			x.Ledger, _ = ledger.Lead(x.Ledger, e.Term)
		case api.EntryOrder:
			x.Ledger, told = ledger.Apply(x.Ledger, e.Data)
		}
		x.Done++
		at := slices.IndexFunc(x.Waits, func(w api.Wait) bool { return w.Index == e.Index })
		if at >= 0 && x.Waits[at].Term == e.Term {
			answers = append(answers, api.Answer{Client: x.Waits[at].Client, Seq: x.Waits[at].Seq, Told: told})
		}
		none(func(w api.Wait) bool { return w.Index == e.Index })
	}
	none(func(w api.Wait) bool { return w.Index > endOf(x.Raft.Log) })
	return answers
}

// steps is a step, all in all.
func steps(x api.Replica, now api.Raft, posts []api.Post) stepped {
	d, why := disktest.Row(x.Disk, keep(x.Raft, now)...)
	if why != api.OK {
		return stepped{X: api.Replica{Id: x.Id, Disk: d}, Why: why}
	}
	x.Disk, x.Raft = d, now
	answers := does(&x)
	return stepped{X: x, Packets: packets(x.Id, posts...), Answers: answers}
}

func modelTick(x api.Replica, draw int) stepped {
	x = replicatest.Clone(x)
	if draw < 0 {
		return stepped{X: x, Why: api.ErrRange}
	}
	if x.Done >= x.Raft.Log.Base+16 {
		data, _ := ledger.Pack(x.Ledger)
		now, _ := core.Trim(x.Raft, x.Done, data)
		first := steps(x, now, nil)
		if first.Why != api.OK {
			return first
		}
		x = first.X
	}
	now, posts, _ := core.Tick(x.Raft, draw)
	if e := entryAt(now.Log, endOf(now.Log)); now.Role == api.RoleLead && endOf(now.Log) == x.Done && (e.Term == now.Term || e.Index == 0 && now.Log.BaseTerm == now.Term) {
		plan, _ := sched.Plan(x.Ledger.Book, now.Term)
		for _, o := range plan {
			data, _ := order.Encode(api.Command{Order: o})
			if then, _, more, why := core.Propose(now, api.Entry{Kind: api.EntryOrder, Data: data}); why == api.OK {
				now, posts = then, append(posts, more...)
			}
		}
	}
	return steps(x, now, posts)
}

func modelTake(x api.Replica, from int, data string, draw int) stepped {
	x = replicatest.Clone(x)
	m, why := msg.Decode(data)
	if _, no := ledger.Unpack(m.Snap.Data); m.Kind == api.MsgInstall && no != api.OK {
		why = api.ErrForm
	}
	if why != api.OK {
		return stepped{X: x, Why: why}
	}
	now, posts, why := core.Take(x.Raft, from, m, draw)
	if why != api.OK {
		return stepped{X: x, Why: why}
	}
	return steps(x, now, posts)
}

func modelCall(x api.Replica, c api.Command) stepped {
	x = replicatest.Clone(x)
	data, why := order.Encode(c)
	if c.Client == 0 {
		why = api.ErrForm
	}
	if why != api.OK {
		return stepped{X: x, Why: why}
	}
	now, index, posts, why := core.Propose(x.Raft, api.Entry{Kind: api.EntryOrder, Data: data})
	if why != api.OK {
		return stepped{X: x, Why: why}
	}
	x.Waits = append(x.Waits, api.Wait{Index: index, Term: x.Raft.Term, Client: c.Client, Seq: c.Seq})
	return steps(x, now, posts)
}

func modelChange(x api.Replica, list ...int) stepped {
	x = replicatest.Clone(x)
	now, _, posts, why := core.Propose(x.Raft, api.Entry{Kind: api.EntryMembers, Members: list})
	if why != api.OK {
		return stepped{X: x, Why: why}
	}
	return steps(x, now, posts)
}
