package core_test

import (
	"slices"
	"testing"

	"gaffer/api"
	"gaffer/core"
	"gaffer/coretest"
)

// leads is what becomes of one of Id 2 that is elected: the EntryLead stands at 8.
func leads(r *api.Raft) {
	r.Role, r.Leader, r.Votes = api.RoleLead, 2, nil
	r.Peers = []api.Peer{{Id: 1, Next: 8}, {Id: 3, Next: 8}, {Id: 5, Next: 8}}
	r.Log.Entries = append(r.Log.Entries, lead(8, r.Term))
}

// 16.3, ask: the vote of a Term is given to one, whose log no less is in: again to the same one, and to nobody else.
func TestAsk(t *testing.T) {
	for _, vote := range []int{0, 1, 3, 2, 7} {
		for _, from := range []int{1, 3, 7} {
			r := with(following(), func(r *api.Raft) { r.Vote = vote })
			got := take(t, "ask", r, from, ask(4, 7, 4), 3)
			if vote == 0 || vote == from {
				becomes(t, "given", got, with(r, func(r *api.Raft) { r.Vote, r.Wait = from, 13 }), to(from, voted(4, true)))
			} else {
				becomes(t, "not given", got, r, to(from, voted(4, false)))
			}
		}
	}
}

// 16.3, ask: the end of who asks is held against its own: the Term first, then the Index.
func TestAskNewer(t *testing.T) {
	for _, one := range []struct {
		index, term uint64
		given       bool
	}{{7, 4, true}, {8, 4, true}, {most, 4, true}, {6, 4, false}, {0, 4, false}, {0, 5, true}, {7, 5, true}, {0, most, true}, {7, 3, false}, {most, 3, false}, {9, 0, false}} {
		r := with(following(), func(r *api.Raft) { r.Vote = 0 })
		got := take(t, "ask", r, 3, ask(4, one.index, one.term), 66)
		if one.given {
			becomes(t, "newer", got, with(r, func(r *api.Raft) { r.Vote, r.Wait = 3, 12 }), to(3, voted(4, true)))
		} else {
			becomes(t, "not newer", got, r, to(3, voted(4, false)))
		}
	}
	becomes(t, "of nothing", take(t, "of nothing", fresh(1, 1, 2), 2, ask(1, 0, 0), 0), with(fresh(1, 1, 2), func(r *api.Raft) { r.Term, r.Vote = 1, 2 }), to(2, voted(1, true)))
	r := coretest.Holding(fresh(1, 1, 2), api.Log{Base: 9, BaseTerm: 3})
	for index, given := range map[uint64]bool{8: false, 9: true} {
		want := with(r, func(r *api.Raft) { r.Term = 4 })
		if given {
			want.Vote, want.Wait = 2, 10
		}
		becomes(t, "of a snapshot", take(t, "of a snapshot", r, 2, ask(4, index, 3), 0), want, to(2, voted(4, given)))
	}
}

// 16.3, ask: whoever it is that asks, even one that is none of the members; whatever the draw is.
func TestAskOfAnybody(t *testing.T) {
	for draw, wait := range map[int]int{0: 10, 1: 11, 63: 73, 64: 10, 65: 11, 1 << 40: 10} {
		for _, from := range []int{1, 3, 4, 5, 6, 7} {
			r := with(following(), func(r *api.Raft) { r.Vote = 0 })
			becomes(t, "asks", take(t, "asks", r, from, ask(4, 7, 4), draw), with(r, func(r *api.Raft) { r.Vote, r.Wait = from, wait }), to(from, voted(4, true)))
		}
	}
}

// 16.3, ask: of a lower Term it is told the Term; of a higher one the replica follows that, and its vote is free again, whatever it was.
func TestAskTerms(t *testing.T) {
	for what, r := range map[string]api.Raft{"follows": following(), "stands": standing(), "leads": leading()} {
		for _, term := range []uint64{1, 3} {
			becomes(t, what+", lower", take(t, what, r, 3, ask(term, most, most), 0), r, to(3, voted(4, false)))
		}
		if r.Role != api.RoleFollow {
			becomes(t, what+", the same", take(t, what, r, 3, ask(4, 7, 4), 0), r, to(3, voted(4, false)))
			for _, vote := range []int{0, 3} { // by hand alone: who does not follow gives no vote, whatever its own was
				r.Vote = vote
				becomes(t, what+", and has a vote", take(t, what, r, 3, ask(4, 7, 4), 0), r, to(3, voted(4, false)))
			}
		}
		for _, term := range []uint64{5, 9, api.MaxNumber} {
			after := with(r, func(r *api.Raft) {
				r.Term, r.Vote, r.Role, r.Leader, r.Votes, r.Peers = term, 0, api.RoleFollow, 0, nil, nil
			})
			becomes(t, what+", higher", take(t, what, r, 3, ask(term, 7, 4), 2), with(after, func(r *api.Raft) { r.Vote, r.Wait = 3, 12 }), to(3, voted(term, true)))
			becomes(t, what+", higher, of an elder log", take(t, what, r, 3, ask(term, 6, 4), 2), after, to(3, voted(term, false)))
		}
	}
}

// 16.3, voted: with a majority of the members that it has it leads.
func TestVoted(t *testing.T) {
	r := standing() // of 1, 2, 3, 5
	got := take(t, "one", r, 3, voted(4, true), 5)
	becomes(t, "one", got, with(r, func(r *api.Raft) { r.Votes = []int{2, 3} }))
	becomes(t, "the same again", take(t, "the same again", got.R, 3, voted(4, true), 5), got.R)
	becomes(t, "not given", take(t, "not given", got.R, 1, voted(4, false), 5), got.R)
	for _, from := range []int{4, 6, 7} {
		more := append([]int{2, 3}, from)
		becomes(t, "one that is none", take(t, "one that is none", got.R, from, voted(4, true), 5), with(r, func(r *api.Raft) { r.Votes = more }))
	}
	first := take(t, "the first", r, 1, voted(4, true), 5)
	becomes(t, "the first", first, with(r, func(r *api.Raft) { r.Votes = []int{1, 2} }))
	elected := with(r, leads)
	sent := []api.Post{to(1, appends(4, 7, 4, 5, lead(8, 4))), to(3, appends(4, 7, 4, 5, lead(8, 4))), to(5, appends(4, 7, 4, 5, lead(8, 4)))}
	becomes(t, "one and one", take(t, "one and one", got.R, 1, voted(4, true), 5), elected, sent...)
	becomes(t, "the last one", take(t, "the last one", got.R, 5, voted(4, true), 5), elected, sent...)
	r.Votes, r.Peers, r.Leader = []int{1, 2, 3, 5, 7}, leading().Peers, 3
	for _, from := range []int{1, 4, 5} {
		becomes(t, "all, by hand", take(t, "all, by hand", r, from, voted(4, true), 5), elected, sent...)
	}
}

// 16.3, voted: of nobody who does not stand; of a lower Term nothing, of a higher one the replica follows it.
func TestVotedElse(t *testing.T) {
	for what, r := range map[string]api.Raft{"follows": following(), "leads": leading()} {
		r.Votes = []int{1, 2, 3}
		becomes(t, what, take(t, what, r, 5, voted(4, true), 5), r)
	}
	for what, r := range map[string]api.Raft{"follows": following(), "stands": standing(), "leads": leading()} {
		r.Votes = []int{1, 2}
		for _, ok := range []bool{true, false} {
			becomes(t, what+", lower", take(t, what, r, 3, voted(3, ok), 5), r)
			for _, term := range []uint64{5, api.MaxNumber} {
				becomes(t, what+", higher", take(t, what, r, 3, voted(term, ok), 5), with(r, func(r *api.Raft) {
					r.Term, r.Vote, r.Role, r.Leader, r.Votes, r.Peers = term, 0, api.RoleFollow, 0, nil, nil
				}))
			}
		}
	}
}

// 16.3, to lead: what an elder Term left is settled with the new entry alone; at the last end nobody leads.
func TestLead(t *testing.T) {
	r := standing()
	r.Log.Entries[1].Members, r.Log.Entries[3].Members = []int{2}, []int{2}
	r.Term, r.Vote, r.Commit = 5, 2, 3
	got := take(t, "alone", r, 1, voted(5, true), 5)
	becomes(t, "alone", got, with(r, func(r *api.Raft) { r.Votes = []int{1, 2}; leads(r); r.Peers, r.Commit = nil, 8 }))

	r = standing()
	r.Log.Entries[1].Members, r.Log.Entries[3].Members = []int{2, 3}, []int{2, 3}
	got = take(t, "of two", r, 3, voted(4, true), 5)
	becomes(t, "of two", got, with(r, func(r *api.Raft) { leads(r); r.Peers = []api.Peer{{Id: 3, Next: 8}} }), to(3, appends(4, 7, 4, 5, lead(8, 4))))

	none := standing()
	none.Log.Entries[3].Members = []int{1, 3, 5}
	got = take(t, "none of its own members", with(none, func(r *api.Raft) { r.Votes = []int{1, 2} }), 5, voted(4, true), 5)
	becomes(t, "none of its own members", got, with(none, leads), to(1, appends(4, 7, 4, 5, lead(8, 4))), to(3, appends(4, 7, 4, 5, lead(8, 4))), to(5, appends(4, 7, 4, 5, lead(8, 4))))

	last := coretest.Ended(standing(), api.MaxNumber)
	becomes(t, "at the last end", take(t, "at the last end", last, 1, voted(last.Term, true), 5), with(last, func(r *api.Raft) { r.Votes = []int{1, 2} }))
	full := coretest.With(coretest.Rights()["stands, as many as are open"], func(r *api.Raft) { r.Votes = []int{1, 2} }) // of 1, 5, 7
	got = take(t, "as many as are open", full, 7, voted(full.Term, true), 5)
	if got.R.Role != api.RoleLead || len(got.R.Log.Entries) != api.MaxOpen+1 || !slices.EqualFunc(got.R.Peers, []int{1, 5, 7}, func(p api.Peer, id int) bool { return p == api.Peer{Id: id, Next: 74} }) {
		t.Errorf("as many as are open: %s", coretest.Brief(got.R))
	}
}

// 16.9: of all members that there are, and all votes: it leads, if a majority of the members that it has voted for it.
func TestElected(t *testing.T) {
	d := draws(169)
	elected := 0
	for _, now := range allSets() {
		for _, votes := range allSets() {
			r := with(standing(), func(r *api.Raft) { r.Log.Entries[3].Members, r.Votes = now, votes })
			from := []int{1, 3, 4, 5, 6, 7}[d.Intn(6)]
			got, _, why := core.Take(r, from, voted(4, true), 0)
			want := majority(now, append(slices.Clone(votes), from))
			if is := got.Role == api.RoleLead; is != want || why != api.OK {
				t.Errorf("of %v, with the votes of %v and of %d: %v, error %d", now, votes, from, is, why)
			}
			if want {
				elected++
			}
		}
	}
	if elected < 1000 {
		t.Errorf("only %d are elected", elected)
	}
}
