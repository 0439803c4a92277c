package log_test

import (
	"math"
	"slices"
	"strconv"
	"testing"

	"gaffer/api"
	"gaffer/log"
	"gaffer/logtest"
)

// others are entries behind index that have these Terms, and nothing that any log here has.
func others(index uint64, terms ...uint64) []api.Entry {
	var l []api.Entry
	for i, term := range terms {
		l = append(l, order(index+1+uint64(i), term, "other "+strconv.Itoa(i)))
	}
	return l
}

// upTo is l up to that Index, and behind it these entries.
func upTo(l api.Log, index uint64, some ...api.Entry) api.Log {
	l = logtest.CloneLog(l)
	l.Entries = append(l.Entries[:index-l.Base], some...)
	return l
}

// 14.2: the chapter's example; logs that part at the first entry, in the middle, at the end; entries that stay.
func TestJoin(t *testing.T) {
	l := some() // behind 2 of Term 1: Terms 1, 2, 2, 4, 4
	for what, one := range map[string]struct {
		index, term uint64
		terms       []uint64
		first       uint64 // 0: all stays
	}{
		"none":                     {5, 2, nil, 0},
		"none, at the Base":        {2, 1, nil, 0},
		"none, at the end":         {7, 4, nil, 0},
		"all that there is":        {2, 1, []uint64{1, 2, 2, 4, 4}, 0},
		"the first one":            {2, 1, []uint64{1}, 0},
		"the last one":             {6, 4, []uint64{4}, 0},
		"from the middle":          {3, 1, []uint64{2, 2}, 0},
		"one behind the end":       {7, 4, []uint64{4}, 8},
		"a higher Term":            {7, 4, []uint64{most}, 8},
		"as many as a batch":       {7, 4, []uint64{5, 5, 5, 6, 6, 7, 8, 8}, 8},
		"over the end":             {5, 2, []uint64{4, 4, 4, 5}, 8},
		"all, and more":            {2, 1, []uint64{1, 2, 2, 4, 4, 9}, 8},
		"the first is another one": {2, 1, []uint64{2, 2, 2, 4, 4}, 3},
		"the first alone":          {2, 1, []uint64{2}, 3},
		"the last is another one":  {2, 1, []uint64{1, 2, 2, 4, 5}, 7},
		"in the middle":            {2, 1, []uint64{1, 2, 3}, 5},
		"of a lower Term":          {5, 2, []uint64{3, 3, 3, 3}, 6},
		"of a lower one, alone":    {5, 2, []uint64{3}, 6},
		"that comes together":      {3, 1, []uint64{1, 2, 4}, 4},
	} {
		list := others(one.index, one.terms...)
		want := l
		if one.first > 0 {
			want = upTo(l, one.first-1, list[one.first-one.index-1:]...)
		}
		joins(t, what, l, one.index, one.term, list, want, one.first, api.OK)
	}
	example := api.Log{Entries: []api.Entry{lead(1, 1), lead(2, 1), lead(3, 2)}}
	joins(t, "the example", example, 2, 1, []api.Entry{lead(3, 3)}, api.Log{Entries: []api.Entry{lead(1, 1), lead(2, 1), lead(3, 3)}}, 3, api.OK)
	joins(t, "nothing", api.Log{}, 0, 0, nil, api.Log{}, 0, api.OK)
	joins(t, "into nothing", api.Log{}, 0, 0, others(0, 1, 1, 2), api.Log{Entries: others(0, 1, 1, 2)}, 1, api.OK)
	joins(t, "of Term 0", api.Log{}, 0, 0, others(0, 0), api.Log{Entries: others(0, 0)}, 1, api.OK)
	joins(t, "onto a Base", api.Log{Base: 7, BaseTerm: 3}, 7, 3, others(7, 3), api.Log{Base: 7, BaseTerm: 3, Entries: others(7, 3)}, 8, api.OK)
}

// 14.2: entries up to the Base are left out, whatever their Terms and that of index are; if all are, nothing is done.
func TestJoinBelow(t *testing.T) {
	l := some()
	for _, term := range []uint64{0, 1, 2, most} {
		for index := range l.Base {
			joins(t, "none below the Base", l, index, term, nil, l, 0, api.OK)
			for n := range l.Base - index + 1 {
				for _, of := range []uint64{0, 1, 2, most} {
					joins(t, "all are below the Base, or up to it", l, index, term, others(index, slices.Repeat([]uint64{of}, int(n))...), l, 0, api.OK)
				}
			}
			ahead := others(index, slices.Repeat([]uint64{9}, int(l.Base-index))...)
			joins(t, "one is above", l, index, term, append(slices.Clone(ahead), others(2, 1)...), l, 0, api.OK)
			joins(t, "all are above", l, index, term, append(slices.Clone(ahead), others(2, 1, 2, 2, 4, 4)...), l, 0, api.OK)
			joins(t, "another one above", l, index, term, append(slices.Clone(ahead), others(2, 2, 2)...), upTo(l, 2, others(2, 2, 2)...), 3, api.OK)
			joins(t, "more above", l, index, term, append(slices.Clone(ahead), others(2, 1, 2, 2, 4, 4, 5)...), upTo(l, 7, others(2, 1, 2, 2, 4, 4, 5)[5]), 8, api.OK)
			refuses(t, "below the BaseTerm", l, index, term, append(slices.Clone(ahead), others(2, 0)...), api.ErrOrder)
			refuses(t, "they fall", l, index, term, append(slices.Clone(ahead), others(2, 3, 2)...), api.ErrOrder)
		}
	}
	far := row(1<<32+5, 3, 3, 3)
	joins(t, "far below", far, 5, 1, others(5, 1, 1, 1), far, 0, api.OK)
	joins(t, "far below, none", far, 0, 0, nil, far, 0, api.OK)
	last := api.Log{Base: most, BaseTerm: 3}
	joins(t, "far below the last", last, 0, 0, others(0, 7), last, 0, api.OK)
	joins(t, "just below the last", last, most-1, 0, others(most-1, 7), last, 0, api.OK)
}

// 14.2: each error, in its order.
func TestJoinErrors(t *testing.T) {
	l := some()
	for what, one := range map[string]struct {
		index, term uint64
		some        []api.Entry
		no          api.Errno
	}{
		"above the end":                  {8, 4, nil, api.ErrNone},
		"above the end, with some":       {8, 4, others(8, 5), api.ErrNone},
		"far above":                      {most, 4, nil, api.ErrNone},
		"above by 32 bits":               {1<<32 + 4, 2, others(1<<32+4, 2), api.ErrNone},
		"above, and they fall":           {8, 4, others(8, 2, 1), api.ErrNone},
		"another Term at the end":        {7, 3, nil, api.ErrGap},
		"a higher Term at the end":       {7, 5, others(7, 5), api.ErrGap},
		"another Term between":           {4, 1, others(4, 2), api.ErrGap},
		"another Term at the Base":       {2, 0, nil, api.ErrGap},
		"a higher Term at the Base":      {2, 2, others(2, 2, 2), api.ErrGap},
		"another Term of 32 bits":        {4, 1<<32 + 2, nil, api.ErrGap},
		"another Term, and they fall":    {4, 1, others(4, 3, 1), api.ErrGap},
		"below the Term ahead":           {7, 4, others(7, 3), api.ErrOrder},
		"far below it":                   {7, 4, others(7, 0), api.ErrOrder},
		"below it, where the log parts":  {5, 2, others(5, 1), api.ErrOrder},
		"they fall":                      {7, 4, others(7, 6, 5), api.ErrOrder},
		"they fall at the end":           {3, 1, others(3, 2, 2, 4, 4, 4, 6, 5), api.ErrOrder},
		"they fall to what the log has":  {3, 1, others(3, 3, 2, 4), api.ErrOrder},
		"below the BaseTerm":             {2, 1, others(2, 0), api.ErrOrder},
		"no row":                         {5, 2, others(6, 4), api.ErrForm},
		"no row, of the same Index":      {5, 2, others(4, 4), api.ErrForm},
		"a gap within":                   {5, 2, slices.Delete(others(5, 4, 4, 4), 1, 2), api.ErrForm},
		"twice":                          {5, 2, slices.Insert(others(5, 4, 4), 0, others(5, 4)[0]), api.ErrForm},
		"they fall in Index":             {5, 2, []api.Entry{lead(6, 4), lead(7, 4), lead(6, 4)}, api.ErrForm},
		"wrapped round to 0":             {most, 4, others(most, 4), api.ErrForm},
		"wrapped round to 1":             {most, 4, []api.Entry{lead(1, 4)}, api.ErrForm},
		"wrapped round within":           {most - 1, 4, others(most-1, 4, 4), api.ErrForm},
		"Index of 32 bits":               {1<<32 + 5, 2, others(5, 4), api.ErrForm},
		"no row, above the end":          {8, 4, others(9, 4), api.ErrForm},
		"no row, of another Term":        {4, 1, others(5, 4), api.ErrForm},
		"no row, and they fall":          {5, 2, append(others(5, 4, 3), lead(9, 9)), api.ErrForm},
		"no row, all below the Base":     {0, 0, others(1, 1), api.ErrForm},
		"no row, up to the Base":         {0, 0, []api.Entry{lead(2, 1)}, api.ErrForm},
		"no row behind the Base":         {0, 0, append(others(0, 1, 1), lead(4, 2)), api.ErrForm},
		"no row, below and of Index 0":   {0, 0, []api.Entry{lead(0, 1), lead(1, 1)}, api.ErrForm},
		"an entry that the log has else": {3, 1, []api.Entry{{Index: 4, Term: 2}}, api.ErrForm},
	} {
		refuses(t, what, l, one.index, one.term, one.some, one.no)
	}
	refuses(t, "nothing: above the end", api.Log{}, 1, 0, nil, api.ErrNone)
	refuses(t, "nothing: another Term", api.Log{}, 0, 1, nil, api.ErrGap)
	refuses(t, "the last Base: wrapped round", api.Log{Base: most, BaseTerm: 1}, most, 1, others(most, 1), api.ErrForm)
}

// 14.2: a wrong entry is ErrForm, wherever it stands, and whatever else is wrong.
func TestJoinWrong(t *testing.T) {
	l := some()
	for i, e := range logtest.WrongEntries() {
		for what, one := range map[string]struct{ index, term uint64 }{"right": {7, 4}, "above the end": {8, 4}, "another Term": {7, 3}, "far below": {0, 0}, "in the log": {3, 1}} {
			at := func(more uint64) api.Entry {
				e := e
				if e.Index > 0 {
					e.Index = one.index + more
				}
				e.Term = 9
				return e
			}
			what += ", wrong entry " + strconv.Itoa(i)
			refuses(t, what, l, one.index, one.term, []api.Entry{at(1)}, api.ErrForm)
			refuses(t, what, l, one.index, one.term, append(others(one.index, 5, 4), at(3)), api.ErrForm)
			refuses(t, what, l, one.index, one.term, []api.Entry{at(1), lead(one.index+2, 9)}, api.ErrForm)
		}
	}
	for i, e := range logtest.RightEntries() {
		base := api.Log{Base: e.Index - 1, Entries: nil}
		want := api.Log{Base: e.Index - 1, Entries: []api.Entry{e}}
		joins(t, "right entry "+strconv.Itoa(i), base, e.Index-1, 0, []api.Entry{e}, want, e.Index, api.OK)
		joins(t, "there already "+strconv.Itoa(i), want, e.Index-1, 0, []api.Entry{order(e.Index, e.Term, "another")}, want, 0, api.OK)
	}
}

// 14.2: Terms and Indexes at MaxNumber, and at the greatest of all.
func TestJoinGreat(t *testing.T) {
	for _, n := range []uint64{api.MaxNumber, 1 << 63, most} {
		l := row(n-3, n-1, n-1, n-1)
		joins(t, "the last", l, n-1, n-1, others(n-1, n), upTo(l, n-1, others(n-1, n)...), n, api.OK)
		joins(t, "the last two", l, n-2, n-1, others(n-2, n, n), upTo(l, n-2, others(n-2, n, n)...), n-1, api.OK)
		joins(t, "none at the end", l, n-1, n-1, nil, l, 0, api.OK)
		joins(t, "far below", l, 0, 0, others(0, n, n), l, 0, api.OK)
		refuses(t, "above the end", l, n, n-1, nil, api.ErrNone)
		refuses(t, "below", l, n-1, n-1, others(n-1, n-2), api.ErrOrder)
		refuses(t, "another Term", l, n-1, n, others(n-1, n), api.ErrGap)
		full := row(n-3, n-1, n-1, n-1, n)
		joins(t, "none at the end", full, n, n, nil, full, 0, api.OK)
		joins(t, "all of it", full, n-3, n-1, others(n-3, n-1, n-1, n), full, 0, api.OK)
	}
	refuses(t, "behind the greatest of all", row(most-1, 1, 1), most, 1, others(most, 1), api.ErrForm)
}

// model does what the chapter says of a Join of right entries in a row, Index by Index.
func model(l api.Log, index, term uint64, some []api.Entry) (api.Log, uint64, api.Errno) {
	has := map[uint64]api.Entry{l.Base: {Term: l.BaseTerm}}
	for _, e := range l.Entries {
		has[e.Index] = e
	}
	at, there := has[index]
	switch {
	case index < l.Base:
	case !there:
		return api.Log{}, 0, api.ErrNone
	case at.Term != term:
		return api.Log{}, 0, api.ErrGap
	}
	var first uint64
	for _, e := range some {
		old, there := has[e.Index]
		if e.Index <= l.Base || first == 0 && there && old.Term == e.Term {
			continue
		}
		if first == 0 {
			first = e.Index
			for gone := first; gone <= end(l); gone++ {
				delete(has, gone)
			}
		}
		has[e.Index] = e
	}
	made := api.Log{Base: l.Base, BaseTerm: l.BaseTerm}
	for n := l.Base + 1; len(made.Entries) < len(has)-1; n++ {
		made.Entries = append(made.Entries, has[n])
	}
	if !right(made) {
		return api.Log{}, 0, api.ErrOrder
	}
	return made, first, api.OK
}

// 14.2 and 14.5: all small logs, and all that can be joined: what becomes of it; that what was joined is there, and changes nothing when it is joined again; that ahead of it nothing changes.
func TestJoinAll(t *testing.T) {
	told := map[api.Errno]int{}
	for _, l := range small() {
		for index := range end(l) + 2 {
			for term := range uint64(3) {
				for _, terms := range termsUpTo(4) {
					list := others(index, terms...)
					want, first, no := model(l, index, term, list)
					joins(t, "all", l, index, term, list, want, first, no)
					if no == api.OK {
						joined(t, l, index, term, list, want, first)
					}
					told[no]++
				}
			}
		}
	}
	for _, no := range []api.Errno{api.OK, api.ErrNone, api.ErrGap, api.ErrOrder} {
		if told[no] < 1000 {
			t.Errorf("error %d was told only %d times", no, told[no])
		}
	}
}

// joined holds the log that became of l against 14.5.
func joined(t *testing.T, l api.Log, index, term uint64, some []api.Entry, made api.Log, first uint64) {
	t.Helper()
	again, at, why := log.Join(made, index, term, some)
	if !same(again, made) || at != 0 || why != api.OK {
		t.Errorf("%s joined again to %s: %s, %d, error %d", briefs(some), brief(made), brief(again), at, why)
	}
	for _, e := range some {
		if e.Index > l.Base {
			terms(t, "joined", made, e.Index, e.Term, api.OK)
		}
		if first > 0 && e.Index >= first {
			from(t, "joined", made, e.Index, 1, api.OK, e)
		}
	}
	ahead, _ := log.From(l, l.Base+1, math.MaxInt)
	n := 0
	for n < len(ahead) && (ahead[n].Index <= index || first == 0 || ahead[n].Index < first) {
		n++
	}
	from(t, "ahead of what was joined", made, l.Base+1, n, api.OK, ahead[:n]...)
}
