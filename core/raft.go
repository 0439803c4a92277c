package core

import (
	"slices"

	"gaffer/api"
	"gaffer/log"
)

// All here, but wait, is asked of right replicas alone, so that the log has no error to tell.

func end(r api.Raft) uint64 {
	index, _, _ := log.End(r.Log)
	return index
}

// members are those up to the end, settled or not; sure are those that are settled.
func members(r api.Raft) []int { return membersUpto(r, end(r)) }

func sure(r api.Raft) []int { return membersUpto(r, r.Commit) }

func membersUpto(r api.Raft, upto uint64) []int {
	before := r.First
	if r.Snap.Index > 0 {
		before = r.Snap.Members
	}
	l, _ := log.Members(r.Log, upto, before)
	return l
}

// unsettled are the entries above Commit.
func unsettled(r api.Raft) []api.Entry {
	return r.Log.Entries[r.Commit-r.Log.Base:]
}

// own is r in memory of its own.
func own(r api.Raft) api.Raft {
	r.First, r.Votes, r.Peers = slices.Clone(r.First), slices.Clone(r.Votes), slices.Clone(r.Peers)
	r.Log, _ = log.Trim(r.Log, 0) // all of it, anew
	r.Snap = ownSnap(r.Snap)
	return r
}

func ownSnap(s api.Snap) api.Snap {
	s.Members = slices.Clone(s.Members)
	return s
}

// wait is for how many ticks.
func wait(draw int) int { return api.MinWait + draw%api.Spread }
