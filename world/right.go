package world

import (
	"gaffer/api"
	"gaffer/disk"
	"gaffer/replica"
	"gaffer/wal"
)

// rightMembers asks layer 3 by an entry in which nothing else can be wrong.
func rightMembers(l []int) bool {
	return wal.Check(api.Entry{Index: 1, Kind: api.EntryMembers, Members: l}) == api.OK
}

func rightSlot(s api.Slot) bool {
	if s.Up {
		return replica.Check(s.Replica) == api.OK
	}
	return isFallen(s.Replica) && disk.Check(s.Replica.Disk) == api.OK
}

// isFallen tells whether x has nothing but its Id and its Disk.
func isFallen(x api.Replica) bool {
	b := x.Ledger.Book
	state := len(b.Nodes) + len(b.Tasks) + len(b.Binds) + len(x.Ledger.Clients)
	return isNoRaft(x.Raft) && b.Fence == 0 && state == 0 && x.Done == 0 && len(x.Waits) == 0
}

func isNoRaft(r api.Raft) bool {
	lists := len(r.First) + len(r.Votes) + len(r.Peers) + len(r.Log.Entries) + len(r.Snap.Members) + len(r.Snap.Data)
	switch {
	case lists > 0, r.Id != 0, r.Role != 0, r.Vote != 0, r.Leader != 0, r.Wait != 0:
		return false
	case r.Term != 0, r.Commit != 0, r.Log.Base != 0, r.Log.BaseTerm != 0, r.Snap.Index != 0, r.Snap.Term != 0:
		return false
	}
	return true
}
