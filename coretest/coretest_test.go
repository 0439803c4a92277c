package coretest_test

import (
	"slices"
	"testing"

	"gaffer/api"
	"gaffer/core"
	"gaffer/coretest"
	"gaffer/logtest"
)

// What is said of replicas is so.
func TestRightAndWrong(t *testing.T) {
	for what, r := range coretest.Rights() {
		if why := core.Check(r); why != api.OK {
			t.Errorf("right replica %s: error %d", what, why)
		}
	}
	for what, r := range coretest.Wrongs() {
		if why := core.Check(r); why == api.OK {
			t.Errorf("wrong replica %s is right", what)
		}
	}
}

// Each field counts, nil and empty lists are alike; what is cloned is of memory of its own.
func TestSame(t *testing.T) {
	r := coretest.Leading()
	r.Votes = []int{1, 2}
	if !coretest.Same(r, coretest.Clone(r)) || !coretest.Same(api.Raft{}, api.Raft{First: []int{}, Votes: []int{}, Peers: []api.Peer{}}) {
		t.Error("what is alike is told to be another one")
	}
	for i, change := range []func(r *api.Raft){
		func(r *api.Raft) { r.Id++ },
		func(r *api.Raft) { r.First[0]++ },
		func(r *api.Raft) { r.Term++ },
		func(r *api.Raft) { r.Vote++ },
		func(r *api.Raft) { r.Role = api.RoleStand },
		func(r *api.Raft) { r.Leader++ },
		func(r *api.Raft) { r.Log.Entries[1].Members[2]++ },
		func(r *api.Raft) { r.Log.Entries[0].Term++ },
		func(r *api.Raft) { r.Snap.Members[0]++ },
		func(r *api.Raft) { r.Commit++ },
		func(r *api.Raft) { r.Votes[1]++ },
		func(r *api.Raft) { r.Votes = r.Votes[:1] },
		func(r *api.Raft) { r.Peers[0].Id++ },
		func(r *api.Raft) { r.Peers[1].Next++ },
		func(r *api.Raft) { r.Peers[2].Match++ },
		func(r *api.Raft) { r.Wait++ },
	} {
		if other := coretest.With(r, change); coretest.Same(other, r) || coretest.Brief(other) == coretest.Brief(r) {
			t.Errorf("change %d is not seen", i)
		}
	}
}

func TestSamePosts(t *testing.T) {
	m := api.Msg{Kind: api.MsgAppend, Term: 2, Entries: logtest.Batch(0, 2)}
	l := []api.Post{{To: 1, Msg: m}, {To: 2, Msg: m}}
	if !coretest.SamePosts(l, slices.Clone(l)) || !coretest.SamePosts(nil, []api.Post{}) {
		t.Error("what is alike is told to be another one")
	}
	for i, other := range [][]api.Post{nil, l[:1], {{To: 1, Msg: m}, {To: 3, Msg: m}}, {{To: 2, Msg: m}, {To: 1, Msg: m}}, {{To: 1, Msg: m}, {To: 2}}} {
		if coretest.SamePosts(l, other) || coretest.BriefPosts(other) == coretest.BriefPosts(l) {
			t.Errorf("list %d is not another one", i)
		}
	}
}
