package core

import (
	"slices"

	"gaffer/api"
	"gaffer/log"
	"gaffer/quorum"
)

func (s *step) take(from int, m api.Msg, draw int) {
	if m.Term < s.Term {
		s.refer(from, m.Kind)
		return
	}
	if m.Term > s.Term {
		s.follow(m.Term)
	}
	switch m.Kind {
	case api.MsgAsk:
		s.takeAsk(from, m, draw)
	case api.MsgVoted:
		s.takeVoted(from, m)
	case api.MsgAppend:
		s.takeAppend(from, m, draw)
	case api.MsgAppended:
		s.takeAppended(from, m)
	case api.MsgInstall:
		s.takeInstall(from, m, draw)
	}
}

// refer tells one of an elder Term which one it is by now; what answers a message needs no answer.
func (s *step) refer(from int, kind api.MsgKind) {
	switch kind {
	case api.MsgAsk:
		s.put(from, api.Msg{Kind: api.MsgVoted})
	case api.MsgAppend, api.MsgInstall:
		s.answer(from, false, 0)
	}
}

func (s *step) answer(to int, ok bool, index uint64) {
	s.put(to, api.Msg{Kind: api.MsgAppended, Ok: ok, Index: index})
}

func (s *step) takeAsk(from int, m api.Msg, draw int) {
	newer, _ := log.Newer(s.Log, m.Index, m.LogTerm)
	give := newer && s.Role == api.RoleFollow && (s.Vote == 0 || s.Vote == from)
	if give {
		s.Vote, s.Wait = from, wait(draw)
	}
	s.put(from, api.Msg{Kind: api.MsgVoted, Ok: give})
}

func (s *step) takeVoted(from int, m api.Msg) {
	if !m.Ok || s.Role != api.RoleStand {
		return
	}
	if at, there := slices.BinarySearch(s.Votes, from); !there {
		s.Votes = slices.Insert(s.Votes, at, from)
	}
	if quorum.Most(members(s.Raft), s.Votes) {
		s.lead()
	}
}

func (s *step) takeAppend(from int, m api.Msg, draw int) {
	if !s.heed(from, draw) || beyond(m) {
		return
	}
	joined, first, why := log.Join(s.Log, m.Index, m.LogTerm, m.Entries)
	switch {
	case why == api.ErrNone:
		s.answer(from, false, end(s.Raft)+1)
	case why == api.ErrGap && m.Index > s.Commit:
		s.answer(from, false, s.since(m.Index))
	case why == api.OK && (first == 0 || first > s.Commit): // what is settled stays
		s.Log = joined
		s.Commit = max(s.Commit, min(m.Commit, lastOf(m)))
		s.answer(from, true, lastOf(m))
	}
}

func (s *step) takeInstall(from int, m api.Msg, draw int) {
	if !s.heed(from, draw) || m.Snap.Term > m.Term || m.Snap.Index > api.MaxNumber {
		return
	}
	if m.Snap.Index > s.Commit {
		s.install(m.Snap)
	}
	s.answer(from, true, m.Snap.Index)
}

// heed is so, unless the replica leads itself: from is the leader of its Term.
func (s *step) heed(from, draw int) bool {
	if s.Role == api.RoleLead {
		return false
	}
	s.yield()
	s.Leader, s.Wait = from, wait(draw)
	return true
}

func (s *step) install(last api.Snap) {
	if term, why := log.Term(s.Log, last.Index); why == api.OK && term == last.Term {
		s.Log, _ = log.Trim(s.Log, last.Index)
	} else {
		s.Log = api.Log{Base: last.Index, BaseTerm: last.Term}
	}
	s.Snap, s.Commit = ownSnap(last), last.Index
}

// since is the first one above Commit of the Term that stands at index, which is above Commit, too.
func (s *step) since(index uint64) uint64 {
	term, _ := log.Term(s.Log, index)
	l := unsettled(s.Raft)
	at := slices.IndexFunc(l, func(e api.Entry) bool { return e.Term == term }) // Terms never fall: from there on they are the same
	return l[at].Index
}

func (s *step) takeAppended(from int, m api.Msg) {
	at := s.peer(from)
	if s.Role != api.RoleLead || at < 0 {
		return
	}
	p, last := &s.Peers[at], end(s.Raft)
	switch {
	case !m.Ok:
		p.Next = min(max(m.Index, p.Match+1), last+1)
		s.send(*p)
	case m.Index <= last:
		p.Match = max(p.Match, m.Index)
		p.Next = max(p.Next, p.Match+1)
		s.settle()
		if p.Next <= last {
			s.send(*p)
		}
	}
}

// beyond tells whether an append has entries of a Term, or an Index, that its sender cannot have.
func beyond(m api.Msg) bool {
	if len(m.Entries) == 0 {
		return false
	}
	last := m.Entries[len(m.Entries)-1]
	return last.Term > m.Term || last.Index > api.MaxNumber
}

func lastOf(m api.Msg) uint64 {
	return m.Index + uint64(len(m.Entries)) // their Index rises by one each
}
