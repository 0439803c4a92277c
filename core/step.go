package core

import (
	"slices"

	"gaffer/api"
	"gaffer/log"
	"gaffer/quorum"
)

// step is what a replica becomes, in memory of its own, and what it sends meanwhile.
type step struct {
	api.Raft
	out chan api.Post
}

// begin has room for all that one step sends: no more than a message to each.
func begin(r api.Raft) *step {
	return &step{own(r), make(chan api.Post, api.MaxReplicas)}
}

// put is of a message of the Term that the replica has by now.
func (s *step) put(to int, m api.Msg) {
	m.Term = s.Term
	select {
	case s.out <- api.Post{To: to, Msg: m}:
	default: // never: there is room
	}
}

// sent is all that was put, in that order.
func (s *step) sent() []api.Post {
	var l []api.Post
posts:
	for {
		select {
		case p := <-s.out:
			l = append(l, p)
		default: // there is no more
			break posts
		}
	}
	return l
}

func (s *step) tick(draw int) {
	if s.Role == api.RoleLead {
		s.sendAll()
		return
	}
	s.Wait = max(0, s.Wait-1)
	switch {
	case s.Wait > 0:
	case s.mayStand():
		s.stand(draw)
	default:
		s.Wait = wait(draw)
	}
}

// mayStand is so for one of the sure ones, too: who is out by an entry that is not settled may have to lead, for that to be settled.
func (s *step) mayStand() bool {
	isOne := slices.Contains(members(s.Raft), s.Id) || slices.Contains(sure(s.Raft), s.Id)
	return isOne && s.Term < api.MaxNumber
}

func (s *step) stand(draw int) {
	s.follow(s.Term + 1)
	s.Role, s.Vote, s.Votes, s.Wait = api.RoleStand, s.Id, []int{s.Id}, wait(draw)
	all := members(s.Raft)
	if quorum.Most(all, s.Votes) {
		s.lead()
		return
	}
	index, term, _ := log.End(s.Log)
	for _, m := range all {
		if m != s.Id {
			s.put(m, api.Msg{Kind: api.MsgAsk, Index: index, LogTerm: term})
		}
	}
}

func (s *step) follow(term uint64) {
	if s.Term != term {
		s.Vote = 0
	}
	s.Term, s.Leader = term, 0
	s.yield()
}

// yield is of one that follows, whoever leads.
func (s *step) yield() {
	s.Role, s.Votes, s.Peers = api.RoleFollow, nil, nil
}

func (s *step) lead() {
	last := end(s.Raft)
	if last == api.MaxNumber {
		return
	}
	s.Role, s.Leader, s.Votes, s.Peers = api.RoleLead, s.Id, nil, nil
	s.lookAfter(members(s.Raft), last+1)
	s.add(api.Entry{Index: last + 1, Term: s.Term, Kind: api.EntryLead})
}

func (s *step) propose(e api.Entry) {
	e.Members = slices.Clone(e.Members)
	if e.Kind == api.EntryMembers {
		s.lookAfter(e.Members, e.Index)
	}
	s.add(e)
}

// lookAfter makes the members but the replica itself its peers: those that are stay as they are, new ones are sent from next on.
func (s *step) lookAfter(ids []int, next uint64) {
	var peers []api.Peer
	for _, m := range ids {
		switch at := s.peer(m); {
		case m == s.Id:
		case at < 0:
			peers = append(peers, api.Peer{Id: m, Next: next})
		default:
			peers = append(peers, s.Peers[at])
		}
	}
	s.Peers = peers
}

// peer is its place among the Peers, below 0 if it is none.
func (s *step) peer(id int) int {
	return slices.IndexFunc(s.Peers, func(p api.Peer) bool { return p.Id == id })
}

// add is of a leader's new entry.
func (s *step) add(e api.Entry) {
	s.Log.Entries = append(s.Log.Entries, e)
	s.settle()
	s.sendAll()
}

// settle leaves entries of an elder Term alone till one of its own above them is settled: another leader might still take them back.
func (s *step) settle() {
	upto := quorum.Settled(members(s.Raft), s.Id, end(s.Raft), s.Peers)
	if term, _ := log.Term(s.Log, upto); upto > s.Commit && term == s.Term {
		s.Commit = upto
	}
}

func (s *step) sendAll() {
	for _, p := range s.Peers {
		s.send(p)
	}
}

func (s *step) send(p api.Peer) {
	if p.Next <= s.Log.Base {
		s.put(p.Id, api.Msg{Kind: api.MsgInstall, Snap: ownSnap(s.Snap)})
		return
	}
	term, _ := log.Term(s.Log, p.Next-1)
	entries, _ := log.From(s.Log, p.Next, api.MaxBatch)
	s.put(p.Id, api.Msg{Kind: api.MsgAppend, Index: p.Next - 1, LogTerm: term, Commit: s.Commit, Entries: entries})
}
