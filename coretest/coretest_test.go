package coretest_test

import (
	"slices"
	"testing"

	"gaffer/api"
	"gaffer/core"
	"gaffer/coretest"
	"gaffer/logtest"
	"gaffer/memtest"
)

// What is said of replicas is so.
func TestRightAndWrong(t *testing.T) {
	for what, r := range coretest.Rights() {
		if why := core.Check(r); why != api.OK {
			t.Errorf("right replica %s: error %d", what, why)
		}
	}
	for what, r := range coretest.Wrongs() {
		if why := core.Check(r); why == api.OK {
			t.Errorf("wrong replica %s is right", what)
		}
	}
}

// Each field counts, nil and empty lists are alike; what is cloned is of memory of its own.
func TestSame(t *testing.T) {
	r := coretest.Leading()
	r.Votes = []int{1, 2}
	if !coretest.Same(r, coretest.Clone(r)) || !coretest.Same(api.Raft{}, api.Raft{First: []int{}, Votes: []int{}, Peers: []api.Peer{}}) {
		t.Error("what is alike is told to be another one")
	}
	for i, change := range []func(r *api.Raft){
		func(r *api.Raft) { r.Id++ },
		func(r *api.Raft) { r.First[0]++ },
		func(r *api.Raft) { r.Term++ },
		func(r *api.Raft) { r.Vote++ },
		func(r *api.Raft) { r.Role = api.RoleStand },
		func(r *api.Raft) { r.Leader++ },
		func(r *api.Raft) { r.Log.Entries[1].Members[2]++ },
		func(r *api.Raft) { r.Log.Entries[0].Term++ },
		func(r *api.Raft) { r.Snap.Members[0]++ },
		func(r *api.Raft) { r.Commit++ },
		func(r *api.Raft) { r.Votes[1]++ },
		func(r *api.Raft) { r.Votes = r.Votes[:1] },
		func(r *api.Raft) { r.Peers[0].Id++ },
		func(r *api.Raft) { r.Peers[1].Next++ },
		func(r *api.Raft) { r.Peers[2].Match++ },
		func(r *api.Raft) { r.Wait++ },
	} {
		if other := coretest.With(r, change); coretest.Same(other, r) || coretest.Brief(other) == coretest.Brief(r) {
			t.Errorf("change %d is not seen", i)
		}
	}
}

func TestSamePosts(t *testing.T) {
	m := api.Msg{Kind: api.MsgAppend, Term: 2, Entries: logtest.Batch(0, 2)}
	l := []api.Post{{To: 1, Msg: m}, {To: 2, Msg: m}}
	if !coretest.SamePosts(l, slices.Clone(l)) || !coretest.SamePosts(nil, []api.Post{}) {
		t.Error("what is alike is told to be another one")
	}
	for i, other := range [][]api.Post{nil, l[:1], {{To: 1, Msg: m}, {To: 3, Msg: m}}, {{To: 2, Msg: m}, {To: 1, Msg: m}}, {{To: 1, Msg: m}, {To: 2}}} {
		if coretest.SamePosts(l, other) || coretest.BriefPosts(other) == coretest.BriefPosts(l) {
			t.Errorf("list %d is not another one", i)
		}
	}
}

// All lists of replicas, and of what they send, are gone to.
func TestVisit(t *testing.T) {
	type sent struct {
		R     api.Raft
		Posts []api.Post
	}
	kind := memtest.Kind[sent]{Visit: func(v *memtest.Visitor, s *sent) {
		coretest.Visit(v, &s.R)
		coretest.VisitPosts(v, &s.Posts)
	}}
	for i, share := range []func(s *sent){
		func(s *sent) {},
		func(s *sent) { s.R.Votes = s.R.First },
		func(s *sent) { s.R.Votes = s.R.First[1:2] },
		func(s *sent) { s.R.Votes = s.R.First[:0] },
		func(s *sent) { s.R.Snap.Members = s.R.Log.Entries[1].Members[:1] },
		func(s *sent) { s.R.Log.Entries[3].Members = s.R.Log.Entries[1].Members },
		func(s *sent) { s.Posts[0].Msg.Entries = s.R.Log.Entries },
		func(s *sent) { s.Posts[0].Msg.Entries[1].Members = s.R.Log.Entries[1].Members },
		func(s *sent) { s.Posts[1].Msg.Snap.Members = s.R.Snap.Members },
		func(s *sent) { s.Posts[0].Msg.Entries = s.Posts[1].Msg.Entries },
	} {
		m := api.Msg{Entries: logtest.Batch(0, 2), Snap: logtest.SomeSnap()}
		s := sent{coretest.Leading(), []api.Post{{To: 1, Msg: m}, {To: 2, Msg: logtest.CloneMsg(m)}}}
		share(&s)
		if apart := memtest.Apart(s, kind); apart != (i == 0) {
			t.Errorf("%d: apart is %t", i, apart)
		}
	}
	l := coretest.Leading().Peers
	if got := memtest.Apart([2]api.Raft{{Peers: l}, {Peers: l[2:]}}, memtest.Kind[[2]api.Raft]{Visit: func(v *memtest.Visitor, both *[2]api.Raft) {
		coretest.Visit(v, &both[0])
		coretest.Visit(v, &both[1])
	}}); got {
		t.Error("Peers are not gone to")
	}
}
