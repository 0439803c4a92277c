package core_test

import (
	"slices"
	"strings"
	"testing"

	"gaffer/api"
	"gaffer/coretest"
	"gaffer/logtest"
)

// at is a step that tells that Index.
func at(t *testing.T, what string, got stepped, index uint64) stepped {
	t.Helper()
	if got.At != index {
		t.Errorf("%s: Index %d, not %d", what, got.At, index)
	}
	return got
}

// 16.4: an order stands at the end, whatever Index and Term it says, and is sent to all peers, in order.
func TestPropose(t *testing.T) {
	r := leading() // peers 1: next 8; 3: next 6; 5: next 2
	l := r.Log.Entries
	for _, data := range []string{"", "x", "\x00\xff", strings.Repeat("x", 4096)} {
		for _, says := range []api.Entry{{}, {Index: 8, Term: 4}, {Index: 3, Term: 9}, {Index: most, Term: most}} {
			says.Kind, says.Data = api.EntryOrder, data
			e := order(8, 4, data)
			got := at(t, "an order", propose(t, "an order", r, says), 8)
			becomes(t, "an order", got, with(r, func(r *api.Raft) { r.Log.Entries = append(r.Log.Entries, e) }),
				to(1, appends(4, 7, 4, 5, e)), to(3, appends(4, 5, 2, 5, l[3], l[4], e)), to(5, install(4, r.Snap)))
		}
	}
	r = with(leading(), func(r *api.Raft) { r.Term = 9 })
	got := at(t, "a later Term", propose(t, "a later Term", r, order(1, 1, "x")), 8)
	if e := got.R.Log.Entries[5]; !logtest.SameEntry(e, order(8, 9, "x")) {
		t.Errorf("a later Term: %s", logtest.BriefEntries([]api.Entry{e}))
	}
}

// 16.4: one that is alone settles at once; one of two does not.
func TestProposeAlone(t *testing.T) {
	r := with(fresh(1, 1), func(r *api.Raft) { r.Term, r.Role, r.Leader = 1, api.RoleLead, 1 })
	for index := uint64(1); index < 5; index++ {
		got := at(t, "alone", propose(t, "alone", r, order(0, 0, "x")), index)
		becomes(t, "alone", got, with(r, func(r *api.Raft) {
			r.Log.Entries, r.Commit = append(r.Log.Entries, order(index, 1, "x")), index
		}))
		r = got.R
	}
	r = with(r, func(r *api.Raft) { r.First, r.Peers = []int{1, 2}, []api.Peer{{Id: 2, Next: 5, Match: 4}} })
	becomes(t, "of two", propose(t, "of two", r, order(0, 0, "x")), with(r, func(r *api.Raft) { r.Log.Entries = append(r.Log.Entries, order(5, 1, "x")) }), to(2, appends(1, 4, 1, 4, order(5, 1, "x"))))
}

// 16.4: at most MaxBatch entries are sent at once, the new one or not.
func TestProposeBatch(t *testing.T) {
	r := coretest.Holding(leading(), logtest.Row(4, 1, slices.Repeat([]uint64{2}, 9)...)) // 5 to 13
	r.Peers = []api.Peer{{Id: 1, Next: 6}, {Id: 3, Next: 7}, {Id: 5, Next: 14}}
	e := order(14, 4, "x")
	l := append(slices.Clone(r.Log.Entries), e)
	becomes(t, "a batch", propose(t, "a batch", r, e), with(r, func(r *api.Raft) { r.Log.Entries = l }),
		to(1, appends(4, 5, 2, 4, l[1:9]...)), to(3, appends(4, 6, 2, 4, l[2:]...)), to(5, appends(4, 13, 2, 4, e)))
}

// settledAll is leading, but that the last change of its members is settled: 1, 2, 3, 5.
func settledAll() api.Raft {
	return with(leading(), func(r *api.Raft) { r.Commit = 7 })
}

// 16.4: a change of the members: of the peers those that are members then stay as they are, new ones are sent the entry itself.
func TestProposeMembers(t *testing.T) {
	r := settledAll()
	l := r.Log.Entries
	for what, one := range map[string]struct {
		now   []int
		peers []api.Peer
		posts func(e api.Entry) []api.Post
	}{
		"one more": {[]int{1, 2, 3, 4, 5}, []api.Peer{r.Peers[0], r.Peers[1], {Id: 4, Next: 8}, r.Peers[2]}, func(e api.Entry) []api.Post {
			return []api.Post{to(1, appends(4, 7, 4, 7, e)), to(3, appends(4, 5, 2, 7, l[3], l[4], e)), to(4, appends(4, 7, 4, 7, e)), to(5, install(4, r.Snap))}
		}},
		"one more, the last": {[]int{1, 2, 3, 5, 7}, append(r.Peers[:3:3], api.Peer{Id: 7, Next: 8}), func(e api.Entry) []api.Post {
			return []api.Post{to(1, appends(4, 7, 4, 7, e)), to(3, appends(4, 5, 2, 7, l[3], l[4], e)), to(5, install(4, r.Snap)), to(7, appends(4, 7, 4, 7, e))}
		}},
		"one fewer": {[]int{1, 2, 5}, []api.Peer{r.Peers[0], r.Peers[2]}, func(e api.Entry) []api.Post {
			return []api.Post{to(1, appends(4, 7, 4, 7, e)), to(5, install(4, r.Snap))}
		}},
		"without the last": {[]int{1, 2, 3}, r.Peers[:2], func(e api.Entry) []api.Post {
			return []api.Post{to(1, appends(4, 7, 4, 7, e)), to(3, appends(4, 5, 2, 7, l[3], l[4], e))}
		}},
	} {
		e := members(8, 4, one.now...)
		got := at(t, what, propose(t, what, r, members(most, most, one.now...)), 8)
		becomes(t, what, got, with(r, func(r *api.Raft) { r.Log.Entries, r.Peers = append(r.Log.Entries, e), one.peers }), one.posts(e)...)
		are(t, what, got.R, one.now, []int{1, 2, 3, 5})
	}
	byHand := with(r, func(r *api.Raft) { r.Peers = []api.Peer{{Id: 4, Next: 5, Match: 3}, {Id: 6, Next: 8}} }) // of peers that are none of its members, and without those that are
	e := members(8, 4, 1, 2, 3, 4, 5)
	becomes(t, "other peers", propose(t, "other peers", byHand, e), with(byHand, func(r *api.Raft) {
		r.Log.Entries, r.Peers = append(r.Log.Entries, e), []api.Peer{{Id: 1, Next: 8}, {Id: 3, Next: 8}, {Id: 4, Next: 5, Match: 3}, {Id: 5, Next: 8}}
	}), to(1, appends(4, 7, 4, 7, e)), to(3, appends(4, 7, 4, 7, e)), to(4, appends(4, 4, 2, 7, l[2], l[3], l[4], e)), to(5, appends(4, 7, 4, 7, e)))
}

// 16.4: what is settled is told by the new members, at once.
func TestProposeMembersSettle(t *testing.T) {
	two := with(fresh(1, 1, 2), func(r *api.Raft) {
		r.Term, r.Role, r.Leader, r.Commit = 1, api.RoleLead, 1, 1
		r.Log.Entries = []api.Entry{lead(1, 1), order(2, 1, "x")}
		r.Peers = []api.Peer{{Id: 2, Next: 3, Match: 1}}
	})
	e := members(3, 1, 1)
	becomes(t, "alone from now on", propose(t, "alone from now on", two, e), with(two, func(r *api.Raft) {
		r.Log.Entries, r.Peers, r.Commit = append(r.Log.Entries, e), nil, 3
	}))
	one := with(two, func(r *api.Raft) { r.First, r.Peers, r.Commit = []int{1}, nil, 2 })
	e = members(3, 1, 1, 2)
	becomes(t, "alone no more", propose(t, "alone no more", one, e), with(one, func(r *api.Raft) {
		r.Log.Entries, r.Peers = append(r.Log.Entries, e), []api.Peer{{Id: 2, Next: 3}}
	}), to(2, appends(1, 2, 1, 2, e)))
	three := settledAll()
	three.Log.Entries[3].Members, three.Commit = []int{1, 2, 5}, 6
	e = members(8, 4, 1, 2) // 1 has 7
	got := propose(t, "two of three", three, e)
	if got.R.Commit != 7 || len(got.Posts) != 1 || got.Posts[0].Msg.Commit != 7 {
		t.Errorf("two of three: %s, %s", coretest.Brief(got.R), coretest.BriefPosts(got.Posts))
	}
}

// 16.4: each error, and which one is the first.
func TestProposeErrors(t *testing.T) {
	last := func(r *api.Raft) { *r = coretest.Ended(*r, api.MaxNumber); r.Commit++ }
	elder := func(r *api.Raft) { r.Term = 5 } // than the Term at Commit is
	open := func(r *api.Raft) { r.Commit = 5; r.Log.Entries[2].Term = 4; r.Log.Entries[1].Term = 4 }
	something, nothing := order(0, 0, "x"), api.Entry{}
	more, fewer, same := members(0, 0, 1, 2, 3, 4, 5), members(0, 0, 1, 2, 5), members(0, 0, 1, 2, 3, 5)
	two, without := members(0, 0, 1, 2), members(0, 0, 1, 3, 5)
	for what, one := range map[string]struct {
		change func(r *api.Raft)
		e      api.Entry
		want   api.Errno
	}{
		"follows":                          {func(r *api.Raft) { r.Role = api.RoleFollow }, something, api.ErrLeader},
		"stands":                           {func(r *api.Raft) { r.Role = api.RoleStand }, something, api.ErrLeader},
		"follows, and it is no entry":      {func(r *api.Raft) { r.Role = api.RoleFollow }, nothing, api.ErrLeader},
		"stands, and is full":              {func(r *api.Raft) { full(r); r.Role = api.RoleStand }, something, api.ErrLeader},
		"follows, without itself":          {func(r *api.Raft) { r.Role = api.RoleFollow }, without, api.ErrLeader},
		"no entry":                         {func(*api.Raft) {}, nothing, api.ErrForm},
		"a lead":                           {func(*api.Raft) {}, lead(8, 4), api.ErrForm},
		"no entry, and full":               {full, nothing, api.ErrForm},
		"a lead, at the last end":          {last, lead(0, 0), api.ErrForm},
		"no members, and full":             {full, members(0, 0), api.ErrForm},
		"no members, of an elder Term":     {elder, members(0, 0), api.ErrForm},
		"wrong members, another one open":  {open, members(0, 0, 2, 1), api.ErrForm},
		"full":                             {full, something, api.ErrFull},
		"members, and full":                {full, more, api.ErrFull},
		"the same members, and full":       {func(r *api.Raft) { full(r); r.Term = 5 }, same, api.ErrFull},
		"without itself, and full":         {full, without, api.ErrFull},
		"at the last end":                  {last, something, api.ErrFull},
		"members, at the last end":         {last, more, api.ErrFull},
		"of an elder Term":                 {elder, more, api.ErrState},
		"fewer, of an elder Term":          {elder, fewer, api.ErrState},
		"the same, of an elder Term":       {elder, same, api.ErrState},
		"without itself, of an elder Term": {elder, without, api.ErrState},
		"another one open":                 {open, more, api.ErrState},
		"another one open, the same":       {open, same, api.ErrState},
		"another one open, without itself": {open, without, api.ErrState},
		"the same":                         {func(*api.Raft) {}, same, api.ErrRange},
		"two fewer":                        {func(*api.Raft) {}, two, api.ErrRange},
		"two more":                         {func(*api.Raft) {}, members(0, 0, 1, 2, 3, 4, 5, 6), api.ErrRange},
		"one for another":                  {func(*api.Raft) {}, members(0, 0, 1, 2, 3, 4), api.ErrRange},
		"itself for another":               {func(*api.Raft) {}, members(0, 0, 1, 3, 4, 5), api.ErrRange},
		"itself and another":               {func(*api.Raft) {}, members(0, 0, 1, 3), api.ErrRange},
		"without itself":                   {func(*api.Raft) {}, without, api.ErrBusy},
		"one more, itself is none already": {func(r *api.Raft) { r.Log.Entries[3].Members = []int{1, 3} }, members(0, 0, 1, 3, 5), api.ErrBusy},
	} {
		r := settledAll()
		one.change(&r)
		refused(t, what, propose(t, what, r, one.e), one.want)
	}
}

// full has as many entries in the log as a leader lets be there; all is settled.
func full(r *api.Raft) {
	r.Log = logtest.Row(2, 1, slices.Repeat([]uint64{4}, api.MaxOpen)...)
	r.Commit, r.Peers = r.Log.Base+api.MaxOpen, nil
}

// 16.4: no entry that is not right, whatever its Index is, or a leader's own.
func TestProposeWrongEntries(t *testing.T) {
	for what, r := range map[string]api.Raft{"as it is": leading(), "settled": settledAll(), "full": with(settledAll(), full)} {
		for _, e := range logtest.WrongEntries() {
			if e.Index == 0 && e.Kind != api.EntryNone && e.Kind != api.EntryLead {
				continue // that Index alone makes it wrong, and is no matter here
			}
			refused(t, what+": no entry", propose(t, what, r, e), api.ErrForm)
		}
	}
}

// 16.4: what is refused there is not, just ahead of it.
func TestProposeJustSo(t *testing.T) {
	for what, change := range map[string]func(r *api.Raft){
		"all but full": func(r *api.Raft) {
			r.Log, r.Commit, r.Peers = logtest.Row(2, 1, slices.Repeat([]uint64{4}, api.MaxOpen-1)...), 3, nil
		},
		"all but the last end": func(r *api.Raft) { *r = coretest.Ended(*r, api.MaxNumber-1); r.Commit++ },
		"of an elder Term":     func(r *api.Raft) { r.Term = 5 },
		"another one open":     func(r *api.Raft) { r.Commit = 5 },
	} {
		r := leading()
		change(&r)
		end := of(r).end()
		got := at(t, what, propose(t, what, r, order(0, 0, "x")), end+1)
		if got.Why != api.OK || len(got.R.Log.Entries) != len(r.Log.Entries)+1 {
			t.Errorf("%s: error %d, %s", what, got.Why, coretest.Brief(got.R))
		}
	}
	r := settledAll()
	r.Commit = 6 // the change is settled just so
	if got := at(t, "settled just so", propose(t, "settled just so", r, members(0, 0, 1, 2, 5)), 8); got.Why != api.OK {
		t.Errorf("settled just so: error %d", got.Why)
	}
	r = coretest.Holding(leading(), api.Log{Base: 9, BaseTerm: 4}) // of 1, 2, 3; the Term at Commit is that of the snapshot
	if got := at(t, "a snapshot alone", propose(t, "a snapshot alone", r, members(0, 0, 1, 2)), 10); got.Why != api.OK {
		t.Errorf("a snapshot alone: error %d", got.Why)
	}
	again := propose(t, "again", propose(t, "once", settledAll(), members(0, 0, 1, 2, 5)).R, members(0, 0, 1, 2))
	refused(t, "again", again, api.ErrState)
}

// 16.4: all entries that there are, and replicas at all edges, held against the model.
func TestProposeOfAll(t *testing.T) {
	t.Parallel()
	entries := append(logtest.RightEntries(), logtest.WrongEntries()...)
	entries = append(entries, members(1, 1, 1, 2), members(1, 1, 1, 2, 3), members(1, 1, 1, 2, 3, 4), members(1, 1, 2), members(1, 1, 1, 3, 5), members(1, 1, 2, 3, 5))
	told := map[api.Errno]int{}
	for what, r := range coretest.Rights() {
		for _, e := range entries {
			if len(r.Log.Entries) > 2*api.MaxOpen {
				continue
			}
			m := of(r)
			index, why := m.propose(e)
			want := stepped{Why: why}
			if why == api.OK {
				want = m.told(index)
			}
			if !matches(t, what, r, propose(t, what, r, e), want) {
				return
			}
			told[why]++
		}
	}
	for _, why := range []api.Errno{api.OK, api.ErrLeader, api.ErrForm, api.ErrFull, api.ErrState, api.ErrRange, api.ErrBusy} {
		if told[why] == 0 {
			t.Errorf("error %d is told by none", why)
		}
	}
}
