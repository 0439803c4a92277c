package log_test

import (
	"math"
	"slices"
	"testing"

	"gaffer/api"
	"gaffer/log"
	"gaffer/logtest"
)

// 14.1: Check, and what the others answer of a log that is not right: that, ahead of all other errors, and nothing else.
func TestCheck(t *testing.T) {
	for what, l := range rights() {
		if why := log.Check(l); why != api.OK {
			t.Errorf("%s: error %d", what, why)
		}
	}
	for what, l := range logtest.WrongLogs() {
		if why := log.Check(l); why != api.ErrState {
			t.Errorf("%s: error %d", what, why)
		}
		if index, term, why := log.End(l); index != 0 || term != 0 || why != api.ErrState {
			t.Errorf("%s: End: %d, %d, error %d", what, index, term, why)
		}
		for _, n := range about(l) {
			if term, why := log.Term(l, n); term != 0 || why != api.ErrState {
				t.Errorf("%s: Term of %d: %d, error %d", what, n, term, why)
			}
			if is, why := log.Newer(l, n, n); is || why != api.ErrState {
				t.Errorf("%s: Newer of %d: %v, error %d", what, n, is, why)
			}
			for _, many := range []int{-1, 0, 1, math.MaxInt} {
				if some, why := log.From(l, n, many); len(some) != 0 || why != api.ErrState {
					t.Errorf("%s: From %d: %s, error %d", what, n, briefs(some), why)
				}
			}
			if got, why := log.Trim(l, n); !same(got, api.Log{}) || why != api.ErrState {
				t.Errorf("%s: Trim to %d: %s, error %d", what, n, brief(got), why)
			}
			if list, why := log.Members(l, n, []int{1, 2}); len(list) != 0 || why != api.ErrState {
				t.Errorf("%s: Members to %d: %v, error %d", what, n, list, why)
			}
			refuses(t, what, l, n, 1, nil, api.ErrState)
			refuses(t, what, l, n, 1, []api.Entry{lead(n+1, 9)}, api.ErrState)
			refuses(t, what, l, n, 1, []api.Entry{{}}, api.ErrState)
		}
	}
}

// 14.1: the end of a log with entries, and of one without.
func TestEnd(t *testing.T) {
	for what, one := range map[string]struct {
		l           api.Log
		index, term uint64
	}{
		"nothing":            {api.Log{}, 0, 0},
		"an empty list":      {api.Log{Entries: []api.Entry{}}, 0, 0},
		"a Base":             {api.Log{Base: 7, BaseTerm: 3}, 7, 3},
		"a Base of Term 0":   {api.Log{Base: 7}, 7, 0},
		"the last Base":      {api.Log{Base: most, BaseTerm: most}, most, most},
		"one entry":          {row(0, 0, 5), 1, 5},
		"some":               {some(), 7, 4},
		"to MaxNumber":       {row(api.MaxNumber-1, 1, api.MaxNumber), api.MaxNumber, api.MaxNumber},
		"to the last of all": {row(most-2, 1, most, most), most, most},
	} {
		if index, term, why := log.End(one.l); index != one.index || term != one.term || why != api.OK {
			t.Errorf("%s: %d, %d, error %d; not %d, %d", what, index, term, why, one.index, one.term)
		}
	}
}

// terms asks Term, and holds the answer against what is to be told.
func terms(t *testing.T, what string, l api.Log, index, want uint64, no api.Errno) {
	t.Helper()
	if term, why := log.Term(l, index); term != want || why != no {
		t.Errorf("%s, Term of %d: %d, error %d; not %d, error %d", what, index, term, why, want, no)
	}
}

// 14.1: Term below, at and above the Base, at and above the end.
func TestTerm(t *testing.T) {
	for index, term := range map[uint64]uint64{2: 1, 3: 1, 4: 2, 5: 2, 6: 4, 7: 4} {
		terms(t, "some", some(), index, term, api.OK)
	}
	for what, l := range rights() {
		terms(t, what, l, l.Base, l.BaseTerm, api.OK)
		for _, e := range l.Entries {
			terms(t, what, l, e.Index, e.Term, api.OK)
		}
		for _, n := range about(l) {
			switch {
			case n < l.Base:
				terms(t, what, l, n, 0, api.ErrStale)
			case n > end(l):
				terms(t, what, l, n, 0, api.ErrNone)
			}
		}
	}
}

// from asks From, and holds the answer against what is to be told.
func from(t *testing.T, what string, l api.Log, index uint64, many int, no api.Errno, want ...api.Entry) {
	t.Helper()
	if got, why := log.From(l, index, many); !sames(got, want) || why != no {
		t.Errorf("%s, %d from %d: %s, error %d; not %s, error %d", what, many, index, briefs(got), why, briefs(want), no)
	}
}

// 14.1: From below, at and above the Base, at and above the end; so many, fewer, more, none and below none.
func TestFrom(t *testing.T) {
	all := some().Entries
	from(t, "all", some(), 3, 5, api.OK, all...)
	from(t, "more than all", some(), 3, 6, api.OK, all...)
	from(t, "the first", some(), 3, 1, api.OK, all[0])
	from(t, "between", some(), 4, 2, api.OK, all[1], all[2])
	from(t, "the last", some(), 7, 2, api.OK, all[4])
	from(t, "above the end", some(), 8, 2, api.OK)
	from(t, "the Base", some(), 2, 2, api.ErrStale)
	from(t, "the Base, below 0", some(), 2, -1, api.ErrStale)
	for what, l := range rights() {
		for _, n := range about(l) {
			for _, many := range []int{math.MinInt, -2, -1, 0, 1, 2, 3, len(l.Entries) - 1, len(l.Entries), len(l.Entries) + 1, 1 << 40, math.MaxInt} {
				var want []api.Entry
				for _, e := range l.Entries {
					if e.Index >= n && len(want) < many {
						want = append(want, e)
					}
				}
				if n <= l.Base {
					from(t, what, l, n, many, api.ErrStale)
				} else {
					from(t, what, l, n, many, api.OK, want...)
				}
			}
		}
	}
}

// 14.1: Newer of all Terms and Indexes about the end's.
func TestNewer(t *testing.T) {
	for i, one := range []struct {
		index, term uint64
		want        bool
	}{{7, 4, true}, {8, 4, true}, {6, 4, false}, {0, 4, false}, {most, 3, false}, {7, 3, false}, {0, 5, true}, {6, 5, true}, {most, 4, true}, {0, most, true}, {most, 0, false}, {0, 0, false}} {
		if is, why := log.Newer(some(), one.index, one.term); is != one.want || why != api.OK {
			t.Errorf("%d: %v, error %d", i, is, why)
		}
	}
	for what, l := range rights() {
		endTerm := l.BaseTerm
		if len(l.Entries) > 0 {
			endTerm = l.Entries[len(l.Entries)-1].Term
		}
		for _, index := range about(l) {
			for _, term := range []uint64{0, endTerm - 1, endTerm, endTerm + 1, endTerm + 1<<32, most} {
				want := index >= end(l)
				if term != endTerm {
					want = term > endTerm
				}
				if is, why := log.Newer(l, index, term); is != want || why != api.OK {
					t.Errorf("%s: one that ends with %d of Term %d: %v, error %d", what, index, term, is, why)
				}
			}
		}
	}
}

// 14.3: Trim below, at and above the Base, at and above the end; and 14.6: behind it all above is as it was.
func TestTrim(t *testing.T) {
	all := some().Entries
	for upto, want := range map[uint64]api.Log{
		0: some(), 1: some(), 2: some(),
		3: {Base: 3, BaseTerm: 1, Entries: all[1:]},
		4: {Base: 4, BaseTerm: 2, Entries: all[2:]},
		6: {Base: 6, BaseTerm: 4, Entries: all[4:]},
		7: {Base: 7, BaseTerm: 4},
	} {
		if l, why := log.Trim(some(), upto); !same(l, want) || why != api.OK {
			t.Errorf("up to %d: %s, error %d; not %s", upto, brief(l), why, brief(want))
		}
	}
	for what, l := range rights() {
		for _, n := range about(l) {
			got, why := log.Trim(l, n)
			switch {
			case n > end(l):
				if !same(got, api.Log{}) || why != api.ErrNone {
					t.Errorf("%s, up to %d: %s, error %d", what, n, brief(got), why)
				}
			case n <= l.Base:
				if !same(got, l) || why != api.OK {
					t.Errorf("%s, up to %d: %s, error %d", what, n, brief(got), why)
				}
			default:
				trimmed(t, what, l, n, got, why)
			}
		}
	}
}

// trimmed holds got against l, of which all up to n is to be gone, and nothing else.
func trimmed(t *testing.T, what string, l api.Log, n uint64, got api.Log, why api.Errno) {
	t.Helper()
	term, _ := log.Term(l, n)
	rest, _ := log.From(l, n+1, math.MaxInt)
	if n == most {
		rest = nil // nothing is above it
	}
	if got.Base != n || got.BaseTerm != term || !sames(got.Entries, rest) || why != api.OK || log.Check(got) != api.OK {
		t.Errorf("%s, up to %d: %s, error %d", what, n, brief(got), why)
	}
	index, endTerm, _ := log.End(l)
	if i, e, why := log.End(got); i != index || e != endTerm || why != api.OK {
		t.Errorf("%s, up to %d: the end is %d, %d, error %d", what, n, i, e, why)
	}
	before, _ := log.Members(l, n, []int{6})
	for _, at := range about(l) {
		if at < n {
			terms(t, what, got, at, 0, api.ErrStale)
			continue
		}
		want, no := log.Term(l, at)
		terms(t, what, got, at, want, no)
		list, _ := log.Members(l, at, []int{6})
		if m, why := log.Members(got, at, before); !slices.Equal(m, list) || why != api.OK {
			t.Errorf("%s, up to %d: the Members to %d: %v, error %d; not %v", what, n, at, m, why, list)
		}
		if at > n {
			entries, _ := log.From(l, at, 3)
			from(t, what, got, at, 3, api.OK, entries...)
		}
	}
}

// 14.3: Members ahead of, at and behind an upto; without any, those that are handed in, right or not.
func TestMembers(t *testing.T) {
	for upto, want := range map[uint64][]int{0: {9, 9}, 1: {9, 9}, 2: {9, 9}, 3: {9, 9}, 4: {1, 2, 3}, 5: {1, 2, 3}, 6: {1, 2, 3, 5}, 7: {1, 2, 3, 5}, 8: {1, 2, 3, 5}, 1 << 32: {1, 2, 3, 5}, 1<<32 + 3: {1, 2, 3, 5}, most: {1, 2, 3, 5}} {
		if list, why := log.Members(some(), upto, []int{9, 9}); !slices.Equal(list, want) || why != api.OK {
			t.Errorf("up to %d: %v, error %d", upto, list, why)
		}
	}
	for what, l := range rights() {
		for _, n := range about(l) {
			for _, before := range [][]int{nil, {}, {3}, {-1, 0, 8}, {7, 6, 5, 4, 3, 2, 1, 1}} {
				want := before
				for _, e := range l.Entries {
					if e.Index <= n && e.Kind == api.EntryMembers {
						want = e.Members
					}
				}
				if list, why := log.Members(l, n, before); !slices.Equal(list, want) || why != api.OK {
					t.Errorf("%s, up to %d: %v, error %d; not %v", what, n, list, why, want)
				}
			}
		}
	}
}
