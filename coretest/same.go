package coretest

import (
	"slices"
	"strconv"

	"gaffer/api"
	"gaffer/logtest"
)

// Same takes nil and empty lists for alike; so does SamePosts.
func Same(a, b api.Raft) bool {
	return a.Id == b.Id && slices.Equal(a.First, b.First) && a.Term == b.Term && a.Vote == b.Vote && a.Role == b.Role && a.Leader == b.Leader &&
		logtest.SameLog(a.Log, b.Log) && logtest.SameSnap(a.Snap, b.Snap) && a.Commit == b.Commit &&
		slices.Equal(a.Votes, b.Votes) && slices.Equal(a.Peers, b.Peers) && a.Wait == b.Wait
}

func SamePosts(a, b []api.Post) bool { return slices.EqualFunc(a, b, samePost) }

func samePost(p, q api.Post) bool { return p.To == q.To && logtest.SameMsg(p.Msg, q.Msg) }

func Clone(r api.Raft) api.Raft {
	r.First, r.Votes, r.Peers = slices.Clone(r.First), slices.Clone(r.Votes), slices.Clone(r.Peers)
	r.Log, r.Snap = logtest.CloneLog(r.Log), logtest.CloneSnap(r.Snap)
	return r
}

// Brief is few words on r, however much is there.
func Brief(r api.Raft) string {
	s := "{" + strconv.Itoa(r.Id) + " of" + logtest.BriefMembers(r.First)
	s += ", Term " + strconv.FormatUint(r.Term, 10) + ", Vote " + strconv.Itoa(r.Vote) + ", Role " + strconv.Itoa(int(r.Role)) + ", Leader " + strconv.Itoa(r.Leader)
	s += ", " + logtest.Brief(r.Log) + ", " + logtest.BriefSnap(r.Snap) + ", Commit " + strconv.FormatUint(r.Commit, 10)
	s += ", Votes" + logtest.BriefMembers(r.Votes) + ", Peers"
	for _, p := range r.Peers[:min(8, len(r.Peers))] {
		s += " " + strconv.Itoa(p.Id) + ":" + strconv.FormatUint(p.Next, 10) + ":" + strconv.FormatUint(p.Match, 10)
	}
	return s + ", Wait " + strconv.Itoa(r.Wait) + "}"
}

func BriefPosts(l []api.Post) string {
	s := strconv.Itoa(len(l)) + " sent"
	for _, p := range l {
		s += ", to " + strconv.Itoa(p.To) + " " + logtest.BriefMsg(p.Msg)
	}
	return s
}
