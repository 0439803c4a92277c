package core_test

import (
	"slices"
	"strings"
	"testing"

	"gaffer/api"
	"gaffer/coretest"
	"gaffer/logtest"
)

// heeds is what an append, or an install, of a leader of the same Term makes of one that does not lead, with draw 3.
func heeds(r api.Raft, from int) api.Raft {
	return with(r, func(r *api.Raft) {
		r.Role, r.Leader, r.Votes, r.Peers, r.Wait = api.RoleFollow, from, nil, nil, 13
	})
}

// follows is what one of a higher Term makes.
func follows(r api.Raft, term uint64, from int) api.Raft {
	r = heeds(r, from)
	r.Term, r.Vote = term, 0
	return r
}

// appendTo is an append of Term 4 to r, of 3.
func appendTo(t *testing.T, what string, r api.Raft, index, logTerm, commit uint64, l ...api.Entry) stepped {
	t.Helper()
	return take(t, what, r, 3, appends(4, index, logTerm, commit, l...), 3)
}

func ok(index uint64) api.Post { return to(3, appended(4, true, index)) }

func notOk(index uint64) api.Post { return to(3, appended(4, false, index)) }

// 16.3, append: of no entries: the log stays; Commit rises up to the leader's, or the message's Index.
func TestAppendNone(t *testing.T) {
	r := following() // 3 to 7 of Terms 1, 2, 2, 4, 4; Commit 5
	for _, one := range []struct{ index, term, commit, want uint64 }{
		{7, 4, 5, 5}, {7, 4, 6, 6}, {7, 4, 7, 7}, {7, 4, 8, 7}, {7, 4, most, 7}, {7, 4, 4, 5}, {7, 4, 0, 5},
		{6, 4, 5, 5}, {6, 4, 6, 6}, {6, 4, 7, 6}, {5, 2, 7, 5}, {3, 1, 7, 5}, {2, 1, 7, 5},
		{1, 0, 7, 5}, {1, 9, 7, 5}, {0, 0, 7, 5}, {0, 4, 0, 5},
	} {
		becomes(t, "none", appendTo(t, "none", r, one.index, one.term, one.commit), with(heeds(r, 3), func(r *api.Raft) { r.Commit = one.want }), ok(one.index))
	}
	becomes(t, "of nothing", appendTo(t, "of nothing", with(fresh(1, 1, 2), func(r *api.Raft) { r.Term = 4 }), 0, 0, 9), with(heeds(fresh(1, 1, 2), 3), func(r *api.Raft) { r.Term = 4 }), ok(0))
}

// 16.3, append: entries that the log has, has not, and has otherwise above Commit.
func TestAppendSome(t *testing.T) {
	r := following()
	l := r.Log.Entries
	for what, one := range map[string]struct {
		index, term, commit uint64
		some, want          []api.Entry
		settled             uint64
	}{
		"one behind the end":         {7, 4, 5, []api.Entry{order(8, 4, "x")}, append(l[:5:5], order(8, 4, "x")), 5},
		"that is settled":            {7, 4, 8, []api.Entry{order(8, 4, "x")}, append(l[:5:5], order(8, 4, "x")), 8},
		"ahead of it is":             {7, 4, 7, []api.Entry{order(8, 4, "x")}, append(l[:5:5], order(8, 4, "x")), 7},
		"more is settled":            {7, 4, most, []api.Entry{order(8, 4, "x")}, append(l[:5:5], order(8, 4, "x")), 8},
		"as many as may be":          {7, 4, 12, rest(7, 4, 8), append(l[:5:5], rest(7, 4, 8)...), 12},
		"all that it has":            {2, 1, 7, l, l, 7},
		"some that it has":           {4, 2, 7, l[2:4], l, 6},
		"the last that it has":       {6, 4, 6, l[4:], l, 6},
		"over the end":               {5, 2, 8, append(l[3:5:5], order(8, 4, "x")), append(l[:5:5], order(8, 4, "x")), 8},
		"from Commit on":             {5, 2, 6, []api.Entry{order(6, 3, "x"), order(7, 4, "y")}, append(l[:3:3], order(6, 3, "x"), order(7, 4, "y")), 6},
		"the log is shorter":         {5, 2, 5, []api.Entry{order(6, 3, "x")}, append(l[:3:3], order(6, 3, "x")), 5},
		"and all settled":            {5, 2, 9, []api.Entry{order(6, 3, "x")}, append(l[:3:3], order(6, 3, "x")), 6},
		"the first ones it has":      {3, 1, 5, []api.Entry{l[1], l[2], order(6, 2, "x")}, append(l[:3:3], order(6, 2, "x")), 5},
		"behind the Base":            {2, 1, 5, []api.Entry{l[0], l[1], l[2], order(6, 3, "x")}, append(l[:3:3], order(6, 3, "x")), 5},
		"from ahead of the Base":     {0, 0, 6, []api.Entry{order(1, 1, "x"), order(2, 1, "x"), l[0], l[1], l[2], l[3]}, l, 6},
		"likewise, of another Term":  {0, 3, 5, []api.Entry{order(1, 4, "x"), order(2, 4, "x"), l[0], l[1], l[2], order(6, 4, "y")}, l, 5},
		"none above the Base":        {0, 9, 5, []api.Entry{order(1, 2, "x"), order(2, 1, "x")}, l, 5},
		"those that it has, at last": {5, 2, 5, []api.Entry{order(6, 4, "of the same Term"), order(7, 4, "too")}, l, 5},
	} {
		last := one.index + uint64(len(one.some))
		becomes(t, what, appendTo(t, what, r, one.index, one.term, one.commit, one.some...), with(heeds(r, 3), func(r *api.Raft) { r.Log.Entries, r.Commit = one.want, one.settled }), ok(last))
	}
}

// rest are so many entries of a Term behind index.
func rest(index, term uint64, n int) []api.Entry {
	return logtest.Row(index, term, slices.Repeat([]uint64{term}, n)...).Entries
}

// 16.3, append: with what no leader can have, or what is settled otherwise, nothing more is done, nor answered, than to heed the leader.
func TestAppendNothing(t *testing.T) {
	r := following()
	l := r.Log.Entries
	for what, one := range map[string]struct {
		index, term uint64
		some        []api.Entry
	}{
		"a Term above":                {7, 4, []api.Entry{order(8, 5, "x")}},
		"far above":                   {7, 4, []api.Entry{order(8, most, "x")}},
		"at last":                     {7, 4, []api.Entry{order(8, 4, "x"), order(9, 5, "x")}},
		"above, and above the end":    {8, 4, []api.Entry{order(9, 5, "x")}},
		"above, and of another Term":  {7, 3, []api.Entry{order(8, 5, "x")}},
		"above, up to the Base":       {0, 0, []api.Entry{order(1, 5, "x")}},
		"above, behind another one":   {5, 2, []api.Entry{order(6, 4, "x"), order(7, 5, "x")}},
		"an Index above":              {api.MaxNumber, 4, []api.Entry{order(api.MaxNumber+1, 4, "x")}},
		"an Index above, at last":     {api.MaxNumber - 1, 4, rest(api.MaxNumber-1, 4, 2)},
		"an Index far above":          {most - 2, 4, rest(most-2, 4, 2)},
		"Terms that fall":             {7, 4, []api.Entry{order(8, 3, "x")}},
		"Terms that fall to the last": {7, 4, []api.Entry{order(8, 4, "x"), order(9, 2, "x")}},
		"a Term above ahead of that":  {7, 4, []api.Entry{order(8, 9, "x"), order(9, 4, "x")}},
		"at Commit":                   {4, 2, []api.Entry{order(5, 3, "x")}},
		"at Commit, and more":         {4, 2, []api.Entry{order(5, 3, "x"), order(6, 4, "x")}},
		"below Commit":                {3, 1, []api.Entry{order(4, 1, "x")}},
		"the first":                   {2, 1, []api.Entry{order(3, 2, "x"), l[1], l[2], l[3]}},
		"below, from ahead":           {1, 1, []api.Entry{order(2, 1, "x"), order(3, 2, "x")}},
		"another Term at Commit":      {5, 3, nil},
		"another Term below it":       {4, 1, nil},
		"another Term at the Base":    {2, 2, nil},
		"another Term at the first":   {3, 4, []api.Entry{order(4, 4, "x")}},
	} {
		for _, commit := range []uint64{0, 5, 9} {
			becomes(t, what, appendTo(t, what, r, one.index, one.term, commit, one.some...), heeds(r, 3))
		}
	}
}

// 16.3, append: above the end it is told from where on the log has none; what is settled, or of a Term that the leader has not, is no matter.
func TestAppendAbove(t *testing.T) {
	r := following()
	for _, index := range []uint64{8, 9, 1 << 40, api.MaxNumber - 1, api.MaxNumber, api.MaxNumber + 1, most} {
		for _, term := range []uint64{0, 4, 9} {
			becomes(t, "above", appendTo(t, "above", r, index, term, 9), heeds(r, 3), notOk(8))
		}
	}
	becomes(t, "with entries", appendTo(t, "with entries", r, 8, 4, 9, rest(8, 4, 8)...), heeds(r, 3), notOk(8))
	becomes(t, "that fall", appendTo(t, "that fall", r, 8, 4, 9, order(9, 4, "x"), order(10, 3, "x")), heeds(r, 3), notOk(8))
	becomes(t, "up to the last", appendTo(t, "up to the last", r, api.MaxNumber-1, 4, 9, order(api.MaxNumber, 4, "x")), heeds(r, 3), notOk(8))
	none := with(fresh(1, 1, 2), func(r *api.Raft) { r.Term = 4 })
	becomes(t, "of nothing", appendTo(t, "of nothing", none, 1, 1, 1), heeds(none, 3), notOk(1))
	last := coretest.Ended(following(), api.MaxNumber)
	becomes(t, "at the last end", appendTo(t, "at the last end", last, api.MaxNumber+1, 4, 1), heeds(last, 3), notOk(api.MaxNumber+1))
	becomes(t, "up to the last end", appendTo(t, "up to the last end", last, api.MaxNumber, 3, most), with(heeds(last, 3), func(r *api.Raft) { r.Commit = api.MaxNumber }), ok(api.MaxNumber))
}

// 16.3, append: at another Term it is told the first Index above Commit from which on the log has the Term that is there.
func TestAppendGap(t *testing.T) {
	for _, one := range []struct{ commit, index, want uint64 }{
		{5, 6, 6}, {5, 7, 6}, {6, 7, 7}, {2, 7, 6}, {4, 7, 6}, {4, 5, 5}, {3, 5, 4}, {2, 5, 4}, {3, 4, 4}, {2, 4, 4}, {2, 3, 3},
	} {
		r := with(following(), func(r *api.Raft) { r.Commit = one.commit })
		for _, term := range []uint64{0, 3, 9} {
			for _, some := range [][]api.Entry{nil, {order(one.index+1, 4, "x")}} {
				becomes(t, "another Term", appendTo(t, "another Term", r, one.index, term, 9, some...), heeds(r, 3), notOk(one.want))
			}
		}
	}
	r := coretest.Holding(following(), logtest.Row(4, 1, 1, 2, 2, 2, 2, 2, 2, 2, 2, 2, 2, 2, 3)) // 5 to 17
	for _, one := range []struct{ commit, index, want uint64 }{{4, 16, 6}, {4, 6, 6}, {5, 16, 6}, {6, 16, 7}, {10, 16, 11}, {15, 16, 16}, {4, 17, 17}, {16, 17, 17}, {4, 5, 5}} {
		r.Commit = one.commit
		becomes(t, "a long row", appendTo(t, "a long row", r, one.index, 4, 9), heeds(r, 3), notOk(one.want))
	}
}

// 16.3, append: one that stands follows then, and its vote stays; one that leads does nothing; of a lower Term it is told the Term, of a higher one it is followed.
func TestAppendTerms(t *testing.T) {
	for what, r := range map[string]api.Raft{"follows": following(), "stands": standing(), "leads": leading()} {
		r.Votes = []int{2, 7}
		for _, x := range []api.Msg{appends(4, 7, 4, 7, order(8, 4, "x")), appends(4, 9, 4, 7), appends(4, 6, 3, 7)} {
			for _, term := range []uint64{1, 3} {
				low := x
				low.Term = term
				becomes(t, what+", lower", take(t, what, r, 1, low, 3), r, to(1, appended(4, false, 0)))
			}
		}
		longer := func(r *api.Raft) { r.Commit, r.Log.Entries = 7, append(r.Log.Entries, order(8, 4, "x")) }
		got := take(t, what, r, 1, appends(4, 7, 4, 7, order(8, 4, "x")), 3)
		if r.Role == api.RoleLead {
			becomes(t, what+", the same", got, r)
			for _, x := range []api.Msg{appends(4, 9, 4, 7), appends(4, 6, 3, 7), appends(4, 7, 4, 7)} {
				becomes(t, what+", the same", take(t, what, r, 1, x, 3), r)
			}
		} else {
			becomes(t, what+", the same", got, with(heeds(r, 1), longer), to(1, appended(4, true, 8)))
		}
		for _, term := range []uint64{5, api.MaxNumber} {
			high := take(t, what, r, 1, appends(term, 7, 4, 7, order(8, 4, "x")), 3)
			becomes(t, what+", higher", high, with(follows(r, term, 1), longer), to(1, appended(term, true, 8)))
			becomes(t, what+", higher, above the end", take(t, what, r, 1, appends(term, 9, 4, 7), 3), follows(r, term, 1), to(1, appended(term, false, 8)))
			becomes(t, what+", higher, another Term", take(t, what, r, 1, appends(term, 7, 3, 7), 3), follows(r, term, 1), to(1, appended(term, false, 6)))
			becomes(t, what+", higher, settled otherwise", take(t, what, r, 1, appends(term, 4, 2, 7, order(5, 4, "x")), 3), follows(r, term, 1))
			becomes(t, what+", higher, a Term above", take(t, what, r, 1, appends(term, 7, 4, 7, order(8, term+1, "x")), 3), follows(r, term, 1))
		}
	}
}

// 16.3, append: the wait begins anew, whatever the draw is; and whoever it is that leads.
func TestAppendWaits(t *testing.T) {
	for draw, wait := range map[int]int{0: 10, 1: 11, 63: 73, 64: 10, 65: 11, 1<<63 - 1: 73} {
		for _, from := range []int{1, 3, 4, 7} {
			for _, x := range []api.Msg{appends(4, 7, 4, 5), install(4, api.Snap{Index: 5, Term: 2, Members: []int{1}})} {
				r := with(standing(), func(r *api.Raft) { r.Wait = 0 })
				got := take(t, "waits", r, from, x, draw).R
				if want := with(heeds(r, from), func(r *api.Raft) { r.Wait = wait }); !coretest.Same(got, want) {
					t.Errorf("draw %d: %s, not %s", draw, coretest.Brief(got), coretest.Brief(want))
				}
			}
		}
	}
}

// 16.3, append: entries with as much Data as may be, and Members, come whole.
func TestAppendWhole(t *testing.T) {
	some := []api.Entry{order(8, 4, strings.Repeat("x", 4096)), members(9, 4, 1, 2, 3, 4, 5, 6, 7), lead(10, 4), order(11, 4, "")}
	r := following()
	got := appendTo(t, "whole", r, 7, 4, 9, some...)
	becomes(t, "whole", got, with(heeds(r, 3), func(r *api.Raft) { r.Log.Entries, r.Commit = append(r.Log.Entries, some...), 9 }), ok(11))
	are(t, "whole", got.R, []int{1, 2, 3, 4, 5, 6, 7}, []int{1, 2, 3, 4, 5, 6, 7})
}
