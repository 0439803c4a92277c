package replica

import (
	"slices"

	"gaffer/api"
	"gaffer/changes"
	"gaffer/core"
	"gaffer/disk"
	"gaffer/ledger"
	"gaffer/log"
	"gaffer/msg"
	"gaffer/order"
	"gaffer/sched"
)

// All here, but fallen, rightWaits and decode, is asked of right replicas alone, so that what is asked of their parts has no error to tell.

// step is of what core tells: what Raft becomes, and sends. Nothing is sent or answered ahead of what must last.
func step(x api.Replica, now api.Raft, posts []api.Post) (api.Replica, []api.Packet, []api.Answer, api.Errno) {
	d, why := changes.Do(x.Disk, keeping(x.Raft, now)...)
	if why != api.OK {
		return fallen(x.Id, d), nil, nil, why
	}
	x.Disk, x.Raft = d, now
	x, answers := settle(x)
	return x, packets(x.Id, posts), answers, api.OK
}

// fallen is what is left of one: zero, if not even its disk is right.
func fallen(id int, d api.Disk) api.Replica {
	if disk.Check(d) != api.OK {
		return api.Replica{}
	}
	return api.Replica{Id: id, Disk: d}
}

// refused is x as it was, in memory of its own.
func refused(x api.Replica, why api.Errno) (api.Replica, []api.Packet, []api.Answer, api.Errno) {
	r := x.Raft
	r.First, r.Votes, r.Peers = slices.Clone(r.First), slices.Clone(r.Votes), slices.Clone(r.Peers)
	r.Log, _ = log.Trim(r.Log, 0) // all of it, anew
	r.Snap.Members = slices.Clone(r.Snap.Members)
	x.Disk.Files, x.Raft, x.Ledger, x.Waits = slices.Clone(x.Disk.Files), r, own(x.Ledger), slices.Clone(x.Waits)
	return x, nil, nil, why
}

// own is l in memory of its own: no fence is below 0, so that Lead changes nothing.
func own(l api.Ledger) api.Ledger {
	l, _ = ledger.Lead(l, 0)
	return l
}

// rightWaits is asked of one that is right otherwise, so that with no Waits, too, last is at most the end.
func rightWaits(x api.Replica) bool {
	last := x.Done
	for _, w := range x.Waits {
		if w.Index <= last {
			return false
		}
		last = w.Index
	}
	return last <= end(x.Raft)
}

func end(r api.Raft) uint64 {
	index, _, _ := log.End(r.Log)
	return index
}

// decode takes no snapshot of which no state can be made.
func decode(data string) (api.Msg, api.Errno) {
	m, why := msg.Decode(data)
	if why == api.OK && m.Kind == api.MsgInstall {
		_, why = ledger.Unpack(m.Snap.Data)
	}
	return m, why
}

// trim is a step by which all that is done goes into a snapshot.
func trim(x api.Replica) (api.Replica, api.Errno) {
	data, _ := ledger.Pack(x.Ledger)
	now, _ := core.Trim(x.Raft, x.Done, data)
	x, _, _, why := step(x, now, nil)
	return x, why
}

// mayPlan tells whether now leads, and x has done all that stands in its log, up to an entry of its Term: so no other one knows more.
func mayPlan(x api.Replica, now api.Raft) bool {
	index, term, _ := log.End(now.Log)
	return now.Role == api.RoleLead && index == x.Done && term == now.Term
}

// plan proposes the steps of a plan, as far as there is room in the log.
func plan(b api.Book, now api.Raft, posts []api.Post) (api.Raft, []api.Post) {
	orders, _ := sched.Plan(b, now.Term)
	for _, o := range orders {
		data, _ := order.Encode(api.Command{Order: o})
		then, _, more, why := core.Propose(now, api.Entry{Kind: api.EntryOrder, Data: data})
		if why != api.OK {
			break
		}
		now, posts = then, append(posts, more...)
	}
	return now, posts
}

// settle does what is settled, and tells what those are answered who waited for it.
func settle(x api.Replica) (api.Replica, []api.Answer) {
	base := x.Raft.Log.Base
	if x.Done < base { // a snapshot came
		x.Ledger, _ = ledger.Unpack(x.Raft.Snap.Data)
		x.Done = base
	} else {
		x.Ledger = own(x.Ledger)
	}
	var answers []api.Answer
	for _, e := range x.Raft.Log.Entries[x.Done-base : x.Raft.Commit-base] {
		var told api.Told
		x.Ledger, told = do(x.Ledger, e)
		x.Done = e.Index
		for _, w := range x.Waits {
			if w.Index == e.Index && w.Term == e.Term {
				answers = append(answers, api.Answer{Client: w.Client, Seq: w.Seq, Told: told})
			}
		}
	}
	last := end(x.Raft)
	x.Waits = slices.DeleteFunc(slices.Clone(x.Waits), func(w api.Wait) bool { return w.Index <= x.Done || w.Index > last })
	return x, answers
}

// do tells what an entry's order is told, nothing of another one.
func do(l api.Ledger, e api.Entry) (api.Ledger, api.Told) {
	switch e.Kind {
	case api.EntryLead:
		l, _ = ledger.Lead(l, e.Term)
	case api.EntryOrder:
		return ledger.Apply(l, e.Data)
	}
	return l, api.Told{}
}

func packets(from int, posts []api.Post) []api.Packet {
	var l []api.Packet
	for _, p := range posts {
		data, _ := msg.Encode(p.Msg) // has room: all that core sends is right
		l = append(l, api.Packet{From: from, To: p.To, Data: data})
	}
	return l
}
