package core_test

import (
	"slices"
	"testing"

	"gaffer/api"
	"gaffer/coretest"
	"gaffer/logtest"
)

// asks are those of a Term, of the log that the replicas here have, to these.
func asks(term uint64, ids ...int) []api.Post {
	var l []api.Post
	for _, id := range ids {
		l = append(l, to(id, ask(term, 7, 4)))
	}
	return l
}

// stands is what becomes of one of Id 2, Term 4, that stands.
func stands(r *api.Raft) {
	r.Term, r.Vote, r.Role, r.Leader, r.Votes, r.Peers, r.Wait = 5, 2, api.RoleStand, 0, []int{2}, nil, 10
}

// 16.2: one that does not lead waits; at 0, or if it waited no more, it stands, and asks all members but itself.
func TestTickWaits(t *testing.T) {
	for what, r := range map[string]api.Raft{"follows": following(), "stands": standing()} {
		for _, wait := range []int{2, 3, 12, 73, 74} {
			r.Wait = wait
			becomes(t, what, tick(t, what, r, 5), with(r, func(r *api.Raft) { r.Wait-- }))
		}
		for _, wait := range []int{0, 1} {
			for draw, next := range map[int]int{0: 10, 1: 11, 63: 73, 64: 10, 65: 11, 1<<40 + 7: 17, 1<<63 - 1: 73} {
				r.Wait = wait
				becomes(t, what, tick(t, what, r, draw), with(r, func(r *api.Raft) { stands(r); r.Wait = next }), asks(5, 1, 3, 5)...)
			}
		}
	}
}

// 16.2: what it had of an earlier election is no more when it stands.
func TestTickStandsAnew(t *testing.T) {
	r := standing()
	r.Wait, r.Votes, r.Leader, r.Peers = 1, []int{1, 2, 3, 5}, 3, leading().Peers
	becomes(t, "stands anew", tick(t, "stands anew", r, 0), with(r, stands), asks(5, 1, 3, 5)...)
	r = following()
	r.Wait, r.Votes, r.Peers = 1, []int{1, 3}, leading().Peers
	becomes(t, "has others' votes", tick(t, "has others' votes", r, 0), with(r, stands), asks(5, 1, 3, 5)...)
	r = fresh(1, 1, 2)
	r.Wait = 1
	becomes(t, "of nothing", tick(t, "of nothing", r, 0), with(r, func(r *api.Raft) {
		r.Term, r.Vote, r.Role, r.Votes, r.Wait = 1, 1, api.RoleStand, []int{1}, 10
	}), to(2, ask(1, 0, 0)))
	r = coretest.Holding(fresh(1, 1, 2), api.Log{Base: 9, BaseTerm: 3})
	r.Wait = 1
	becomes(t, "of a snapshot", tick(t, "of a snapshot", r, 0), with(r, func(r *api.Raft) {
		r.Term, r.Vote, r.Role, r.Votes, r.Wait = 4, 1, api.RoleStand, []int{1}, 10
	}), to(2, ask(4, 9, 3)), to(3, ask(4, 9, 3)))
}

// 16.2: who stands: one of the members, or of the sure ones; anybody else waits on.
func TestTickWhoStands(t *testing.T) {
	for what, one := range map[string]struct {
		now, sure []int // the members, and the sure ones
		stands    bool
	}{
		"one of both":       {[]int{1, 2, 3}, []int{1, 2}, true},
		"one of the sure":   {[]int{1, 3, 5}, []int{1, 2, 3}, true},
		"the only sure one": {[]int{5}, []int{2}, true},
		"one of the others": {[]int{2, 3, 5}, []int{1, 3}, true},
		"one of none":       {[]int{1, 3, 5}, []int{1, 3}, false},
		"another one alone": {[]int{3}, []int{3}, false},
		"no more one":       {[]int{3, 5}, []int{3}, false},
	} {
		r := following()
		r.Log.Entries[1].Members, r.Log.Entries[3].Members, r.Wait = one.sure, one.now, 1
		if !one.stands {
			becomes(t, what, tick(t, what, r, 7), with(r, func(r *api.Raft) { r.Wait = 17 }))
			r.Wait = 0
			becomes(t, what, tick(t, what, r, 64), with(r, func(r *api.Raft) { r.Wait = 10 }))
			continue
		}
		others := slices.DeleteFunc(slices.Clone(one.now), func(id int) bool { return id == 2 })
		becomes(t, what, tick(t, what, r, 0), with(r, stands), asks(5, others...)...)
	}
	r := standing()
	r.Log.Entries[1].Members, r.Log.Entries[3].Members, r.Wait = []int{1}, []int{3}, 1
	becomes(t, "stands, and is none", tick(t, "stands, and is none", r, 7), with(r, func(r *api.Raft) { r.Wait = 17 }))
}

// 16.2: at the last Term nobody stands any more.
func TestTickLastTerm(t *testing.T) {
	r := following()
	r.Wait, r.Term = 1, api.MaxNumber
	becomes(t, "the last Term", tick(t, "the last Term", r, 63), with(r, func(r *api.Raft) { r.Wait = 73 }))
	r.Role = api.RoleStand
	becomes(t, "the last Term, stands", tick(t, "the last Term, stands", r, 0), with(r, func(r *api.Raft) { r.Wait = 10 }))
	r.Term--
	becomes(t, "the last but one", tick(t, "the last but one", r, 0), with(r, func(r *api.Raft) { stands(r); r.Term = api.MaxNumber }), asks(api.MaxNumber, 1, 3, 5)...)
	alone := fresh(1, 1)
	alone.Wait, alone.Term = 0, api.MaxNumber
	becomes(t, "alone", tick(t, "alone", alone, 0), with(alone, func(r *api.Raft) { r.Wait = 10 }))
}

// 16.2, and the chapter's example: one that is alone leads, and settles at once.
func TestTickAlone(t *testing.T) {
	r := newOne(t, "alone", 1, []int{1}, api.Hard{}, api.Snap{}, nil, 0).R
	for range api.MinWait - 1 {
		r = tick(t, "alone", r, 0).R
	}
	becomes(t, "alone", stepped{R: r}, with(fresh(1, 1), func(r *api.Raft) { r.Wait = 1 }))
	got := tick(t, "alone", r, 5)
	becomes(t, "alone", got, with(fresh(1, 1), func(r *api.Raft) {
		r.Term, r.Vote, r.Role, r.Leader, r.Commit, r.Wait, r.Log = 1, 1, api.RoleLead, 1, 1, 15, api.Log{Entries: []api.Entry{lead(1, 1)}}
	}))
	becomes(t, "alone, leads", tick(t, "alone, leads", got.R, 5), got.R)

	r = coretest.Ended(following(), api.MaxNumber-1)
	r.Log.Entries[1].Members, r.Wait = []int{2}, 1
	becomes(t, "up to the end", tick(t, "up to the end", r, 0), with(r, func(r *api.Raft) {
		r.Term, r.Vote, r.Role, r.Leader, r.Commit, r.Wait = 5, 2, api.RoleLead, 2, api.MaxNumber, 10
		r.Log.Entries = append(r.Log.Entries, lead(api.MaxNumber, 5))
	}))
	r = coretest.Ended(following(), api.MaxNumber)
	r.Log.Entries[1].Members, r.Wait = []int{2}, 1
	becomes(t, "at the end", tick(t, "at the end", r, 0), with(r, stands))
}

// 16.2: one that leads sends to all peers, in order, and does not wait.
func TestTickLeads(t *testing.T) {
	for _, wait := range []int{0, 1, 12} {
		for _, draw := range []int{0, 5} {
			r := leading()
			r.Wait = wait
			l := r.Log.Entries
			becomes(t, "leads", tick(t, "leads", r, draw), r, to(1, appends(4, 7, 4, 5)), to(3, appends(4, 5, 2, 5, l[3:]...)), to(5, install(4, r.Snap)))
		}
	}
	alone := with(leading(), func(r *api.Raft) { r.Peers = nil })
	becomes(t, "leads alone", tick(t, "leads alone", alone, 0), alone)
}

// 16.2: what is sent to a peer, by its Next: up to Base the snapshot, else the entries from there on, at most MaxBatch.
func TestTickSends(t *testing.T) {
	log := logtest.Row(4, 1, slices.Repeat([]uint64{2}, 12)...) // 5 to 16
	r := coretest.Holding(leading(), log)
	r.Commit = 9
	for next, m := range map[uint64]api.Msg{
		1: install(4, r.Snap), 3: install(4, r.Snap), 4: install(4, r.Snap),
		5:  appends(4, 4, 1, 9, log.Entries[:8]...), // the Base's Term
		6:  appends(4, 5, 2, 9, log.Entries[1:9]...),
		8:  appends(4, 7, 2, 9, log.Entries[3:11]...),
		9:  appends(4, 8, 2, 9, log.Entries[4:12]...), // just as many as may be
		10: appends(4, 9, 2, 9, log.Entries[5:]...),
		16: appends(4, 15, 2, 9, log.Entries[11]),
		17: appends(4, 16, 2, 9),
	} {
		for match := range next {
			r.Peers = []api.Peer{{Id: 7, Next: next, Match: match}}
			becomes(t, "a Next", tick(t, "a Next", r, 0), r, to(7, m))
		}
	}
	r.Peers = []api.Peer{{Id: 1, Next: 1}, {Id: 3, Next: 17, Match: 16}, {Id: 4, Next: 16}, {Id: 5, Next: 4}, {Id: 6, Next: 5}, {Id: 7, Next: 10}}
	becomes(t, "six", tick(t, "six", r, 0), r, to(1, install(4, r.Snap)), to(3, appends(4, 16, 2, 9)), to(4, appends(4, 15, 2, 9, log.Entries[11])),
		to(5, install(4, r.Snap)), to(6, appends(4, 4, 1, 9, log.Entries[:8]...)), to(7, appends(4, 9, 2, 9, log.Entries[5:]...)))
	none := with(fresh(1, 1, 2), func(r *api.Raft) { r.Term, r.Role, r.Peers = 1, api.RoleLead, []api.Peer{{Id: 2, Next: 1}} })
	becomes(t, "of nothing", tick(t, "of nothing", none, 0), none, to(2, appends(1, 0, 0, 0)))
	far := coretest.Ended(leading(), api.MaxNumber)
	far.Peers = []api.Peer{{Id: 1, Next: api.MaxNumber + 1, Match: api.MaxNumber}, {Id: 3, Next: api.MaxNumber - 3}}
	becomes(t, "at the last end", tick(t, "at the last end", far, 0), far, to(1, appends(far.Term, api.MaxNumber, 3, api.MaxNumber-1)), to(3, install(far.Term, far.Snap)))
}

// 16.2: ErrRange of a draw below 0, of each Role.
func TestTickErrors(t *testing.T) {
	for what, r := range coretest.Rights() {
		for _, draw := range []int{-1, -64, -1 << 63} {
			refused(t, what, tick(t, what, r, draw), api.ErrRange)
		}
	}
}

// 16.2: replicas at all edges, with no tick to wait, and draws about Spread, held against the model.
func TestTickOfAll(t *testing.T) {
	for what, r := range coretest.Rights() {
		for _, wait := range []int{r.Wait, 0, 1} {
			for _, draw := range []int{0, 63, 64, 1 << 50} {
				r.Wait = wait
				m := of(r)
				m.tick(draw)
				matches(t, what, r, tick(t, what, r, draw), m.told(0))
			}
		}
	}
}
