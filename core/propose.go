package core

import (
	"slices"

	"gaffer/api"
	"gaffer/log"
	"gaffer/quorum"
	"gaffer/wal"
)

// refuse tells why e may not be the next entry.
func refuse(r api.Raft, e api.Entry) api.Errno {
	switch {
	case r.Role != api.RoleLead:
		return api.ErrLeader
	case e.Kind != api.EntryOrder && e.Kind != api.EntryMembers, wal.Check(e) != api.OK:
		return api.ErrForm
	case len(r.Log.Entries) >= api.MaxOpen, e.Index > api.MaxNumber:
		return api.ErrFull
	case e.Kind == api.EntryMembers:
		return refuseMembers(r, e.Members)
	}
	return api.OK
}

// refuseMembers lets no second change begin ahead of the end of the first one, nor one of a leader who might not know of the last: two majorities might have nobody in common.
func refuseMembers(r api.Raft, then []int) api.Errno {
	if term, _ := log.Term(r.Log, r.Commit); term != r.Term {
		return api.ErrState
	}
	if slices.ContainsFunc(unsettled(r), func(e api.Entry) bool { return e.Kind == api.EntryMembers }) {
		return api.ErrState
	}
	if why := quorum.Next(members(r), then); why != api.OK {
		return why
	}
	if !slices.Contains(then, r.Id) {
		return api.ErrBusy
	}
	return api.OK
}
