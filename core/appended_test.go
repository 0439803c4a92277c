package core_test

import (
	"testing"

	"gaffer/api"
	"gaffer/coretest"
)

// peered is r with another peer in the place of the one of that Id.
func peered(r api.Raft, id int, next, match uint64) api.Raft {
	return with(r, func(r *api.Raft) {
		for i := range r.Peers {
			if r.Peers[i].Id == id {
				r.Peers[i].Next, r.Peers[i].Match = next, match
			}
		}
	})
}

// 16.3, appended, Ok: the peer has all up to there; what a majority has is settled; it is sent what it has not.
func TestAppendedOk(t *testing.T) {
	r := leading() // 2, to 7, of 1, 2, 3, 5; 1: next 8, has 7; 3: next 6, has 3; 5: next 2, has 1; Commit 5
	l := r.Log.Entries
	for what, one := range map[string]struct {
		from               int
		index, next, match uint64
		commit             uint64
		posts              []api.Post
	}{
		"all":                    {3, 7, 8, 7, 7, nil},
		"all but one":            {3, 6, 7, 6, 6, []api.Post{to(3, appends(4, 6, 4, 6, l[4]))}},
		"up to Commit":           {3, 5, 6, 5, 5, []api.Post{to(3, appends(4, 5, 2, 5, l[3:]...))}},
		"one more":               {3, 4, 6, 4, 5, []api.Post{to(3, appends(4, 5, 2, 5, l[3:]...))}},
		"no more":                {3, 3, 6, 3, 5, []api.Post{to(3, appends(4, 5, 2, 5, l[3:]...))}},
		"less, which is late":    {3, 2, 6, 3, 5, []api.Post{to(3, appends(4, 5, 2, 5, l[3:]...))}},
		"nothing":                {3, 0, 6, 3, 5, []api.Post{to(3, appends(4, 5, 2, 5, l[3:]...))}},
		"above the end":          {3, 8, 6, 3, 5, nil},
		"far above":              {3, most, 6, 3, 5, nil},
		"who has all, again":     {1, 7, 8, 7, 5, nil},
		"who has all, late":      {1, 3, 8, 7, 5, nil},
		"who has all, too far":   {1, 8, 8, 7, 5, nil},
		"ahead of the Base":      {5, 1, 2, 1, 5, []api.Post{to(5, install(4, r.Snap))}},
		"at the Base":            {5, 2, 3, 2, 5, []api.Post{to(5, appends(4, 2, 1, 5, l...))}},
		"who was far behind":     {5, 7, 8, 7, 7, nil},
		"who was, some of it":    {5, 4, 5, 4, 5, []api.Post{to(5, appends(4, 4, 2, 5, l[2:]...))}},
		"who was, up to Commit":  {5, 6, 7, 6, 6, []api.Post{to(5, appends(4, 6, 4, 6, l[4]))}},
		"none of its peers":      {4, 7, 0, 0, 5, nil},
		"none, of the last Id":   {7, 7, 0, 0, 5, nil},
		"none, and far too much": {6, most, 0, 0, 5, nil},
	} {
		becomes(t, what, take(t, what, r, one.from, appended(4, true, one.index), 5), with(peered(r, one.from, one.next, one.match), func(r *api.Raft) { r.Commit = one.commit }), one.posts...)
	}
	ahead := peered(r, 3, 8, 3) // it was sent all already
	becomes(t, "sent already", take(t, "sent already", ahead, 3, appended(4, true, 5), 5), peered(r, 3, 8, 5))
	becomes(t, "sent already, settled", take(t, "sent already, settled", ahead, 3, appended(4, true, 6), 5), with(peered(r, 3, 8, 6), func(r *api.Raft) { r.Commit = 6 }))
	becomes(t, "sent some already", take(t, "sent some already", peered(r, 3, 7, 3), 3, appended(4, true, 4), 5), peered(r, 3, 7, 4), to(3, appends(4, 6, 4, 5, l[4])))
}

// 16.3, to settle: what a majority of the members has, of the leader's own Term alone.
func TestSettle(t *testing.T) {
	r := with(leading(), func(r *api.Raft) { r.Term, r.Commit = 5, 3 }) // nothing in the log is of this Term
	for _, index := range []uint64{4, 5, 6} {
		got := take(t, "an elder Term", r, 3, appended(5, true, index), 5)
		if got.R.Commit != 3 {
			t.Errorf("of an elder Term %d is settled", got.R.Commit)
		}
	}
	becomes(t, "an elder Term", take(t, "an elder Term", r, 3, appended(5, true, 7), 5), peered(r, 3, 8, 7))
	r.Log.Entries = append(r.Log.Entries, lead(8, 5))
	r = peered(peered(r, 1, 9, 8), 3, 8, 7)
	becomes(t, "then one of its own", take(t, "then one of its own", r, 3, appended(5, true, 8), 5), with(peered(r, 3, 9, 8), func(r *api.Raft) { r.Commit = 8 }))

	r = peered(leading(), 1, 8, 0)
	r.Commit = 2
	for _, one := range []struct{ first, second, commit uint64 }{{7, 7, 7}, {7, 6, 6}, {6, 7, 6}, {6, 6, 6}, {7, 5, 2}, {3, 7, 2}} { // two of four are no majority
		got := take(t, "one", r, 1, appended(4, true, one.first), 5)
		if got.R.Commit != 2 {
			t.Errorf("of two of four %d is settled", got.R.Commit)
		}
		if got = take(t, "two", got.R, 3, appended(4, true, one.second), 5); got.R.Commit != one.commit {
			t.Errorf("%d is settled, not %d", got.R.Commit, one.commit)
		}
	}
	r = leading()
	r.Log.Entries[3].Members = []int{1, 3} // it is none of them
	becomes(t, "none of them", take(t, "none of them", r, 3, appended(4, true, 6), 5), with(peered(r, 3, 7, 6), func(r *api.Raft) { r.Commit = 6 }), to(3, appends(4, 6, 4, 6, r.Log.Entries[4])))
	r.Log.Entries[3].Members = []int{2, 5} // 1 and 3 are none any more
	becomes(t, "others", take(t, "others", r, 3, appended(4, true, 7), 5), peered(r, 3, 8, 7))
	r.Log.Entries[3].Members = []int{2, 7} // who is no peer has nothing
	becomes(t, "no peer", take(t, "no peer", r, 3, appended(4, true, 7), 5), peered(r, 3, 8, 7))
	r.Log.Entries[3].Members = []int{2}
	becomes(t, "alone", take(t, "alone", r, 3, appended(4, true, 2), 5), with(peered(r, 3, 6, 3), func(r *api.Raft) { r.Commit = 7 }), to(3, appends(4, 5, 2, 7, r.Log.Entries[3:]...)))
}

// 16.3, appended, not Ok: it is tried again from Index on, but not from what the peer has already, nor above the end.
func TestAppendedNotOk(t *testing.T) {
	r := leading()
	l := r.Log.Entries
	for _, one := range []struct {
		from        int
		index, next uint64
		m           api.Msg
	}{
		{3, 5, 5, appends(4, 4, 2, 5, l[2:]...)},
		{3, 4, 4, appends(4, 3, 1, 5, l[1:]...)},
		{3, 3, 4, appends(4, 3, 1, 5, l[1:]...)},
		{3, 0, 4, appends(4, 3, 1, 5, l[1:]...)},
		{3, 6, 6, appends(4, 5, 2, 5, l[3:]...)},
		{3, 7, 7, appends(4, 6, 4, 5, l[4])},
		{3, 8, 8, appends(4, 7, 4, 5)},
		{3, 9, 8, appends(4, 7, 4, 5)},
		{3, most, 8, appends(4, 7, 4, 5)},
		{1, 0, 8, appends(4, 7, 4, 5)},
		{1, 7, 8, appends(4, 7, 4, 5)},
		{1, 8, 8, appends(4, 7, 4, 5)},
		{1, most, 8, appends(4, 7, 4, 5)},
		{5, 0, 2, install(4, r.Snap)},
		{5, 1, 2, install(4, r.Snap)},
		{5, 2, 2, install(4, r.Snap)},
		{5, 3, 3, appends(4, 2, 1, 5, l...)},
		{5, 8, 8, appends(4, 7, 4, 5)},
	} {
		match := map[int]uint64{1: 7, 3: 3, 5: 1}[one.from]
		becomes(t, "not Ok", take(t, "not Ok", r, one.from, appended(4, false, one.index), 5), peered(r, one.from, one.next, match), to(one.from, one.m))
	}
	for _, from := range []int{4, 6, 7} {
		becomes(t, "none of its peers", take(t, "none of its peers", r, from, appended(4, false, 4), 5), r)
	}
	last := coretest.Ended(leading(), api.MaxNumber)
	last.Peers = []api.Peer{{Id: 1, Next: 5}}
	becomes(t, "at the last end", take(t, "at the last end", last, 1, appended(last.Term, false, most), 5), peered(last, 1, api.MaxNumber+1, 0), to(1, appends(last.Term, api.MaxNumber, 3, api.MaxNumber-1)))
}

// 16.3, appended: of nobody who does not lead; of a lower Term nothing; of a higher one the replica follows it, and does nothing more.
func TestAppendedElse(t *testing.T) {
	for what, r := range map[string]api.Raft{"follows": following(), "stands": standing(), "leads": leading()} {
		r.Peers = leading().Peers
		for _, ok := range []bool{true, false} {
			if r.Role != api.RoleLead {
				becomes(t, what, take(t, what, r, 3, appended(4, ok, 7), 5), r)
			}
			for _, term := range []uint64{1, 3} {
				becomes(t, what+", lower", take(t, what, r, 3, appended(term, ok, 7), 5), r)
			}
			for _, term := range []uint64{5, api.MaxNumber} {
				becomes(t, what+", higher", take(t, what, r, 3, appended(term, ok, 7), 5), with(r, func(r *api.Raft) {
					r.Term, r.Vote, r.Role, r.Leader, r.Votes, r.Peers = term, 0, api.RoleFollow, 0, nil, nil
				}))
			}
		}
	}
}
