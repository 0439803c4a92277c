package log

import (
	"slices"

	"gaffer/api"
	"gaffer/wal"
)

// inRow tells whether all are right, and stand one behind the other, from index + 1 on. An Index that wraps round is 0, and so no right entry's.
func inRow(index uint64, l []api.Entry) bool {
	for _, e := range l {
		index++
		if e.Index != index || wal.Check(e) != api.OK {
			return false
		}
	}
	return true
}

// fall tells whether a Term is below the one ahead of it, the first one's being term.
func fall(term uint64, l []api.Entry) bool {
	for _, e := range l {
		if e.Term < term {
			return true
		}
		term = e.Term
	}
	return false
}

// All else here is asked of right logs alone.

func endOf(l api.Log) (uint64, uint64) {
	if len(l.Entries) == 0 {
		return l.Base, l.BaseTerm
	}
	last := l.Entries[len(l.Entries)-1]
	return last.Index, last.Term
}

func termAt(l api.Log, index uint64) (uint64, api.Errno) {
	end, _ := endOf(l)
	switch {
	case index < l.Base:
		return 0, api.ErrStale
	case index > end:
		return 0, api.ErrNone
	case index == l.Base:
		return l.BaseTerm, api.OK
	}
	return l.Entries[index-l.Base-1].Term, api.OK
}

// ahead are the entries up to that Index, behind those above it; neither has room at its end, so that what is put there is not put into the log.
func ahead(l api.Log, index uint64) []api.Entry {
	n := many(l, index)
	return l.Entries[:n:n]
}

func behind(l api.Log, index uint64) []api.Entry {
	all := len(l.Entries)
	return l.Entries[many(l, index):all:all]
}

// many tells how many are up to it.
func many(l api.Log, index uint64) int {
	if index <= l.Base {
		return 0
	}
	return int(min(index-l.Base, uint64(len(l.Entries))))
}

// own is l in memory of its own.
func own(l api.Log) api.Log {
	l.Entries = clone(l.Entries)
	return l
}

func clone(l []api.Entry) []api.Entry {
	l = slices.Clone(l)
	for i := range l {
		l[i].Members = slices.Clone(l[i].Members)
	}
	return l
}
