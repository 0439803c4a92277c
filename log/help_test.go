package log_test

import (
	"math"
	"slices"
	"testing"

	"gaffer/api"
	"gaffer/log"
	"gaffer/logtest"
)

const most = math.MaxUint64

// What the tests of all that has entries have.
var (
	lead    = logtest.Lead
	order   = logtest.Order
	members = logtest.Members
	some    = logtest.Some
	row     = logtest.Row
	brief   = logtest.Brief
	briefs  = logtest.BriefEntries
	same    = logtest.SameLog
	sames   = logtest.SameEntries
)

// right tells whether l is, as the chapter's words have it; the entries by themselves are.
func right(l api.Log) bool {
	last := api.Entry{Index: l.Base, Term: l.BaseTerm}
	for _, e := range l.Entries {
		if e.Index != last.Index+1 || e.Term < last.Term {
			return false
		}
		last = e
	}
	return l.Base != 0 || l.BaseTerm == 0
}

// small are all right logs of few entries, of Terms up to 2: behind nothing, and behind a Base.
func small() []api.Log {
	var list []api.Log
	for _, base := range []uint64{0, 2} {
		for baseTerm := range uint64(3) {
			for _, terms := range termsUpTo(3) {
				if l := row(base, baseTerm, terms...); right(l) {
					list = append(list, l)
				}
			}
		}
	}
	return list
}

// termsUpTo are all lists of so many Terms, or fewer, each up to 2.
func termsUpTo(n int) [][]uint64 {
	all := [][]uint64{nil}
	for at := 0; at < len(all); at++ {
		if len(all[at]) == n {
			break
		}
		for term := range uint64(3) {
			all = append(all, append(slices.Clone(all[at]), term))
		}
	}
	return all
}

// rights are logs at all edges, and all small ones.
func rights() map[string]api.Log {
	list := logtest.RightLogs()
	for _, l := range small() {
		list["small, "+brief(l)] = l
	}
	return list
}

// end is a right log's.
func end(l api.Log) uint64 { return l.Base + uint64(len(l.Entries)) }

// about are numbers about the Base and the end of a right log, and far from both.
func about(l api.Log) []uint64 {
	list := []uint64{0, 1, 2, 1 << 32, api.MaxNumber, 1 << 63, most - 1, most}
	for near := range uint64(4) {
		list = append(list, l.Base+near, l.Base-near, end(l)+near, end(l)-near, l.Base+1<<32+near)
	}
	return append(list, l.Base+uint64(len(l.Entries))/2)
}

// joins holds what becomes of l, and the first one that is changed, against what is to be; all that is handed in is to stay as it was.
func joins(t *testing.T, what string, l api.Log, index, term uint64, some []api.Entry, want api.Log, first uint64, no api.Errno) {
	t.Helper()
	given, list := logtest.CloneLog(l), logtest.CloneEntries(some)
	got, at, why := log.Join(given, index, term, list)
	if !same(got, want) || at != first || why != no {
		t.Errorf("%s; %s behind %d of Term %d: %s, %d, error %d; not %s, %d, error %d", what, briefs(some), index, term, brief(got), at, why, brief(want), first, no)
	}
	if !same(given, l) || !sames(list, some) {
		t.Errorf("%s: what was handed in is changed", what)
	}
}

// refuses is of what no log becomes of.
func refuses(t *testing.T, what string, l api.Log, index, term uint64, some []api.Entry, no api.Errno) {
	t.Helper()
	joins(t, what, l, index, term, some, api.Log{}, 0, no)
}
