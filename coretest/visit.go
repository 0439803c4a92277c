package coretest

import (
	"gaffer/api"
	"gaffer/logtest"
	"gaffer/memtest"
)

// Visit goes through all lists of r, VisitPosts through those of l.
func Visit(v *memtest.Visitor, r *api.Raft) {
	logtest.VisitMembers(v, &r.First)
	logtest.VisitLog(v, &r.Log)
	logtest.VisitSnap(v, &r.Snap)
	logtest.VisitMembers(v, &r.Votes)
	memtest.Plain(v, &r.Peers, func(n int) api.Peer { return api.Peer{Id: n} })
}

func VisitPosts(v *memtest.Visitor, l *[]api.Post) {
	memtest.List(v, l, func(n int) api.Post { return api.Post{To: n} }, samePost, func(p *api.Post) { logtest.VisitMsg(v, &p.Msg) })
}
