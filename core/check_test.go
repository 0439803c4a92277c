package core_test

import (
	"slices"
	"testing"

	"gaffer/api"
	"gaffer/core"
	"gaffer/coretest"
	"gaffer/logtest"
)

// 16.1: Check of replicas at all edges, and of those with a fault.
func TestCheck(t *testing.T) {
	rights, wrongs := coretest.Rights(), coretest.Wrongs()
	if len(rights) < 150 || len(wrongs) < 300 {
		t.Errorf("only %d that are right, %d that are not", len(rights), len(wrongs))
	}
	for what, r := range rights {
		if why := core.Check(r); why != api.OK {
			t.Errorf("%s: error %d", what, why)
		}
	}
	for what, r := range wrongs {
		if why := core.Check(r); why != api.ErrState {
			t.Errorf("%s: error %d", what, why)
		}
	}
}

// 16.1: a replica that is not right is what the others tell first, whatever else is wrong, and nothing else.
func TestWrongReplicas(t *testing.T) {
	for what, r := range coretest.Wrongs() {
		for _, draw := range []int{5, -1} {
			refused(t, what+": Tick", tick(t, what, r, draw), api.ErrState)
			refused(t, what+": Take", take(t, what, r, 1, voted(5, true), draw), api.ErrState)
			refused(t, what+": Take of none", take(t, what, r, 0, api.Msg{}, draw), api.ErrState)
		}
		refused(t, what+": Propose", propose(t, what, r, order(0, 0, "x")), api.ErrState)
		refused(t, what+": Propose of none", propose(t, what, r, api.Entry{}), api.ErrState)
		refused(t, what+": Trim", trim(t, what, r, 5, "x"), api.ErrState)
		refused(t, what+": Trim to nothing", trim(t, what, r, 0, "x"), api.ErrState)
		if now, sure, why := core.Members(r); len(now) != 0 || len(sure) != 0 || why != api.ErrState {
			t.Errorf("%s: Members: %v, %v, error %d", what, now, sure, why)
		}
	}
}

// are asks Members, and holds both lists against what is to be told.
func are(t *testing.T, what string, r api.Raft, wantNow, wantSure []int) {
	t.Helper()
	got := membersOf(t, what, r)
	if !slices.Equal(got.Now, wantNow) || !slices.Equal(got.Sure, wantSure) || got.Why != api.OK {
		t.Errorf("%s: %v, %v, error %d; not %v, %v", what, got.Now, got.Sure, got.Why, wantNow, wantSure)
	}
}

// 16.1: Members up to the end, and the sure ones up to Commit; ahead of the log those of the snapshot, or First, if it is none of any Index.
func TestMembers(t *testing.T) {
	are(t, "of nothing", fresh(1, 2, 5), []int{2, 5}, []int{2, 5})
	for commit, sure := range map[uint64][]int{2: {1, 2}, 3: {1, 2}, 4: {1, 2, 3}, 5: {1, 2, 3}, 6: {1, 2, 3, 5}, 7: {1, 2, 3, 5}} {
		for what, r := range map[string]api.Raft{"follows": following(), "stands": standing(), "leads": leading()} {
			r.First, r.Snap.Members, r.Commit = []int{7}, []int{1, 2}, commit
			are(t, what, r, []int{1, 2, 3, 5}, sure)
		}
	}
	are(t, "a snapshot of no Index", with(fresh(1, 2, 5), func(r *api.Raft) { r.Snap = api.Snap{Members: []int{3}, Data: "x"} }), []int{2, 5}, []int{2, 5})
	are(t, "a snapshot alone", coretest.Holding(fresh(1, 7), api.Log{Base: 4, BaseTerm: 1}), []int{1, 2, 3}, []int{1, 2, 3})
	three := api.Log{Entries: []api.Entry{members(1, 0, 1, 2), members(2, 0, 1), members(3, 0, 1, 4)}}
	for commit, sure := range map[uint64][]int{0: {6}, 1: {1, 2}, 2: {1}, 3: {1, 4}} {
		are(t, "each entry", with(fresh(1, 6), func(r *api.Raft) { r.Log, r.Commit = three, commit }), []int{1, 4}, sure)
	}
	for what, r := range coretest.Rights() {
		m := of(r)
		are(t, what, r, m.members(), m.membersAt(r.Commit))
	}
}

// born is New of what replica 2 has on its disk, but for one part.
func born(t *testing.T, what string, draw int, change func(r *api.Raft)) stepped {
	t.Helper()
	r := with(following(), change)
	return newOne(t, what, r.Id, r.First, api.Hard{Term: r.Term, Vote: r.Vote}, r.Snap, r.Log.Entries, draw)
}

// 16.1: New: one that follows, of what was on its disk: nothing is settled but the snapshot.
func TestNew(t *testing.T) {
	for id := 1; id <= api.MaxReplicas; id++ {
		for _, first := range [][]int{{1}, {7}, {1, 2, 3}, {1, 2, 3, 4, 5, 6, 7}} {
			becomes(t, "of nothing", newOne(t, "of nothing", id, first, api.Hard{}, api.Snap{}, nil, 0), fresh(id, first...))
		}
	}
	want := with(following(), func(r *api.Raft) { r.Leader, r.Commit, r.Wait = 0, 2, 10 })
	becomes(t, "of all", born(t, "of all", 0, func(*api.Raft) {}), want)
	for draw, wait := range map[int]int{0: 10, 1: 11, 62: 72, 63: 73, 64: 10, 65: 11, 127: 73, 128: 10, 1<<40 + 7: 17, 1<<63 - 1: 73} {
		becomes(t, "a draw", born(t, "a draw", draw, func(*api.Raft) {}), with(want, func(r *api.Raft) { r.Wait = wait }))
	}
	becomes(t, "no entries", born(t, "no entries", 0, func(r *api.Raft) { r.Log.Entries = nil }), with(want, func(r *api.Raft) { r.Log.Entries = nil }))
	becomes(t, "no vote", born(t, "no vote", 0, func(r *api.Raft) { r.Vote = 0 }), with(want, func(r *api.Raft) { r.Vote = 0 }))
	becomes(t, "a later Term", born(t, "a later Term", 0, func(r *api.Raft) { r.Term = api.MaxNumber }), with(want, func(r *api.Raft) { r.Term = api.MaxNumber }))
	becomes(t, "no snapshot", born(t, "no snapshot", 0, func(r *api.Raft) { r.Snap, r.Log = api.Snap{}, logtest.Row(0, 0, 1, 2, 4) }),
		with(want, func(r *api.Raft) { r.Snap, r.Log, r.Commit = api.Snap{}, logtest.Row(0, 0, 1, 2, 4), 0 }))
	becomes(t, "a log of Term 0", newOne(t, "a log of Term 0", 1, []int{1}, api.Hard{}, api.Snap{}, logtest.Row(0, 0, 0, 0).Entries, 0),
		with(fresh(1, 1), func(r *api.Raft) { r.Log = logtest.Row(0, 0, 0, 0) }))
}

// 16.1: New: the first ones of the entries may be up to the snapshot's Index: those are left out.
func TestNewBehindSnap(t *testing.T) {
	l := logtest.Row(0, 0, 1, 1, 2, 2, 3, 4)
	for upto := uint64(1); upto <= 6; upto++ {
		for from := range upto {
			s := api.Snap{Index: upto, Term: l.Entries[upto-1].Term, Members: []int{2, 4}, Data: "state"}
			want := fresh(2, 1, 2)
			want.Term, want.Vote, want.Snap, want.Commit = 4, 1, s, upto
			want.Log = api.Log{Base: upto, BaseTerm: s.Term, Entries: l.Entries[upto:]}
			becomes(t, "up to it", newOne(t, "up to it", 2, []int{1, 2}, api.Hard{Term: 4, Vote: 1}, s, l.Entries[from:], 0), want)
		}
	}
	s := api.Snap{Index: 9, Term: 3, Members: []int{2, 4}}
	want := fresh(2, 1, 2)
	want.Term, want.Snap, want.Commit, want.Log = 4, s, 9, api.Log{Base: 9, BaseTerm: 3}
	becomes(t, "all ahead of it", newOne(t, "all ahead of it", 2, []int{1, 2}, api.Hard{Term: 4}, s, l.Entries, 0), want)
}

// 16.1: New: ErrRange of the draw ahead of all, ErrState of what makes no right replica.
func TestNewErrors(t *testing.T) {
	for _, draw := range []int{-1, -64, -1 << 63} {
		refused(t, "draw", born(t, "draw", draw, func(*api.Raft) {}), api.ErrRange)
		refused(t, "draw, and no Id", born(t, "draw, and no Id", draw, func(r *api.Raft) { r.Id = 0 }), api.ErrRange)
	}
	for what, change := range map[string]func(r *api.Raft){
		"Id 0":                     func(r *api.Raft) { r.Id = 0 },
		"Id 8":                     func(r *api.Raft) { r.Id = 8 },
		"no First":                 func(r *api.Raft) { r.First = nil },
		"a wrong First":            func(r *api.Raft) { r.First = []int{2, 1} },
		"Vote -1":                  func(r *api.Raft) { r.Vote = -1 },
		"Vote 8":                   func(r *api.Raft) { r.Vote = 8 },
		"Term below the end's":     func(r *api.Raft) { r.Term = 3 },
		"Term too high":            func(r *api.Raft) { r.Term = api.MaxNumber + 1 },
		"Term below the snap's":    func(r *api.Raft) { r.Log, r.Snap.Term = api.Log{}, 5 },
		"a wrong snapshot":         func(r *api.Raft) { r.Snap.Members = nil },
		"a snapshot's Term alone":  func(r *api.Raft) { r.Snap.Index, r.Log.Entries = 0, logtest.Row(0, 1, 1).Entries },
		"a snapshot too high":      func(r *api.Raft) { r.Snap.Index, r.Log.Entries = api.MaxNumber+1, nil },
		"an end too high":          func(r *api.Raft) { r.Snap.Index, r.Log.Entries = api.MaxNumber, []api.Entry{lead(api.MaxNumber+1, 4)} },
		"a gap behind it":          func(r *api.Raft) { r.Log.Entries = r.Log.Entries[1:] },
		"a gap, and some up to it": func(r *api.Raft) { r.Log.Entries[0].Index = 2 },
		"a gap between":            func(r *api.Raft) { r.Log.Entries = slices.Delete(r.Log.Entries, 2, 3) },
		"one twice":                func(r *api.Raft) { r.Log.Entries = slices.Insert(r.Log.Entries, 2, r.Log.Entries[1]) },
		"Terms that fall":          func(r *api.Raft) { r.Log.Entries[1].Term = 5; r.Term = 5 },
		"below the snapshot's":     func(r *api.Raft) { r.Snap.Term = 2 },
		"a wrong entry":            func(r *api.Raft) { r.Log.Entries[2].Data = "x" },
		"a wrong one at the end":   func(r *api.Raft) { r.Log.Entries[4].Kind = api.EntryNone },
		"far behind":               func(r *api.Raft) { r.Log.Entries[4].Index = most },
	} {
		refused(t, what, born(t, what, 0, change), api.ErrState)
	}
}
