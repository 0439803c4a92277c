package replica

import (
	"slices"

	"gaffer/api"
	"gaffer/changes"
	"gaffer/hard"
	"gaffer/ledger"
	"gaffer/log"
	"gaffer/snap"
	"gaffer/wal"
)

// memory is what a replica finds on its disk.
type memory struct {
	hard   api.Hard
	snap   api.Snap
	ledger api.Ledger // the snapshot's
	log    []api.Entry
}

// recall reads all of it. On the way the log is mended, and cut, if none of it goes on from the snapshot.
func recall(d api.Disk) (api.Disk, memory, api.Errno) {
	var m memory
	d, why := changes.Do(d,
		func(d api.Disk) (api.Disk, api.Errno) {
			h, why := hard.Load(d)
			m.hard = h
			return d, why
		},
		func(d api.Disk) (api.Disk, api.Errno) {
			s, why := snap.Load(d)
			m.snap = s
			return d, why
		},
		func(d api.Disk) (api.Disk, api.Errno) {
			d, l, why := wal.Open(d)
			m.log = l
			return d, why
		},
		func(d api.Disk) (api.Disk, api.Errno) {
			l, why := stateOf(m.snap)
			m.ledger = l
			return d, why
		},
		func(d api.Disk) (api.Disk, api.Errno) {
			if !outdated(m.log, m.snap) {
				return d, api.OK
			}
			m.log = nil
			return wal.Cut(d, 1)
		},
	)
	return d, m, why
}

// stateOf is the ledger in a snapshot.
func stateOf(s api.Snap) (api.Ledger, api.Errno) {
	if s.Index == 0 && s.Data == "" { // of nothing
		return api.Ledger{}, api.OK
	}
	return ledger.Unpack(s.Data)
}

// outdated tells whether a log has nothing but what is in the snapshot, or was another one's: behind the snapshot's entry stands nothing of it then.
func outdated(l []api.Entry, s api.Snap) bool {
	if len(l) == 0 || l[len(l)-1].Index < s.Index {
		return true
	}
	return slices.ContainsFunc(l, func(e api.Entry) bool { return e.Index == s.Index && e.Term != s.Term })
}

// keeping are the changes of the disk by which it has now, where it had was. Wherever they are stopped, a replica can be started of what is there: the Term lasts ahead of entries that have it, the snapshot ahead of what goes for it.
func keeping(was, now api.Raft) []changes.Change {
	var list []changes.Change
	if now.Term != was.Term || now.Vote != was.Vote {
		list = append(list, func(d api.Disk) (api.Disk, api.Errno) {
			return hard.Save(d, api.Hard{Term: now.Term, Vote: now.Vote})
		})
	}
	if now.Snap.Index != was.Snap.Index {
		list = append(list, func(d api.Disk) (api.Disk, api.Errno) { return snap.Save(d, now.Snap) })
	}
	list = append(list, keepingLog(was.Log, now.Log)...)
	if now.Log.Base != was.Log.Base {
		list = append(list, func(d api.Disk) (api.Disk, api.Errno) { return wal.Trim(d, now.Log.Base) })
	}
	return list
}

func keepingLog(was, now api.Log) []changes.Change {
	if term, why := log.Term(was, now.Base); why != api.OK || term != now.BaseTerm {
		return []changes.Change{cut(1), put(now.Entries)} // nothing of it stands behind now's Base
	}
	var list []changes.Change
	gone, added := parting(was, now)
	if len(gone) > 0 {
		list = append(list, cut(gone[0].Index))
	}
	if len(added) > 0 {
		list = append(list, put(added))
	}
	return list
}

func cut(from uint64) changes.Change {
	return func(d api.Disk) (api.Disk, api.Errno) { return wal.Cut(d, from) }
}

func put(l []api.Entry) changes.Change {
	return func(d api.Disk) (api.Disk, api.Errno) { return wal.Append(d, l) }
}

// parting are was's entries from the first Index above now's Base on at which both have not the same one, and now's. It is asked if was has the Base, too.
func parting(was, now api.Log) (gone, added []api.Entry) {
	gone, _ = log.From(was, now.Base+1, len(was.Entries))
	added = now.Entries
entries:
	for _, e := range now.Entries {
		switch {
		case len(gone) == 0, !same(gone[0], e):
			break entries
		}
		gone, added = gone[1:], added[1:]
	}
	return gone, added
}

func same(a, b api.Entry) bool {
	return a.Index == b.Index && a.Term == b.Term && a.Kind == b.Kind && a.Data == b.Data && slices.Equal(a.Members, b.Members)
}
