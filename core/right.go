package core

import (
	"gaffer/api"
	"gaffer/log"
	"gaffer/snap"
	"gaffer/wal"
)

func rightNumbers(r api.Raft) bool {
	switch {
	case !isReplica(r.Id), !isReplicaOrNobody(r.Vote), !isReplicaOrNobody(r.Leader):
		return false
	case len(r.First) == 0, !rise(r.First), !rise(r.Votes):
		return false
	case r.Role >= api.RoleCount, r.Role != api.RoleFollow && r.Term == 0, r.Term > api.MaxNumber:
		return false
	}
	return r.Wait >= 0 && r.Wait <= api.MinWait+api.Spread
}

func rightLog(r api.Raft) bool {
	index, term, why := log.End(r.Log)
	switch {
	case why != api.OK, index > api.MaxNumber, term > r.Term:
		return false
	case snap.Check(r.Snap) != api.OK, r.Snap.Index != r.Log.Base, r.Snap.Term != r.Log.BaseTerm:
		return false
	}
	return r.Commit >= r.Log.Base && r.Commit <= index
}

// rightPeers is asked of one whose log is right.
func rightPeers(r api.Raft) bool {
	last := end(r)
	var ids []int
	for _, p := range r.Peers {
		if p.Id == r.Id || p.Next <= p.Match || p.Next > last+1 {
			return false
		}
		ids = append(ids, p.Id)
	}
	return rise(ids)
}

func isReplica(id int) bool { return id >= 1 && id <= api.MaxReplicas }

func isReplicaOrNobody(id int) bool { return id == 0 || isReplica(id) }

// rise tells whether these are replicas, each above the one ahead: if there are any, that is what makes members right, which layer 3 tells of an entry in which nothing else can be wrong.
func rise(ids []int) bool {
	return len(ids) == 0 || wal.Check(api.Entry{Index: 1, Kind: api.EntryMembers, Members: ids}) == api.OK
}
