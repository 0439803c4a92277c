package core_test

import (
	"slices"

	"gaffer/api"
	"gaffer/coretest"
	"gaffer/logtest"
)

// model does what the chapter's words say, Index by Index, to a right replica, and has what it sends.
type model struct {
	api.Raft
	posts []api.Post
}

func of(r api.Raft) *model { return &model{Raft: coretest.Clone(r)} }

func (m *model) told(at uint64) stepped { return stepped{R: m.Raft, At: at, Posts: m.posts} }

func (m *model) end() uint64 {
	last := m.Log.Base
	for _, e := range m.Log.Entries {
		last = e.Index
	}
	return last
}

// termAt is of an Index from Base to the end.
func (m *model) termAt(index uint64) uint64 {
	term := m.Log.BaseTerm
	for _, e := range m.Log.Entries {
		if e.Index <= index {
			term = e.Term
		}
	}
	return term
}

func (m *model) membersAt(upto uint64) []int {
	list := m.First
	if m.Snap.Index > 0 {
		list = m.Snap.Members
	}
	for _, e := range m.Log.Entries {
		if e.Kind == api.EntryMembers && e.Index <= upto {
			list = e.Members
		}
	}
	return slices.Clone(list)
}

func (m *model) members() []int { return m.membersAt(m.end()) }

func majority(members, some []int) bool {
	n := 0
	for _, id := range members {
		if slices.Contains(some, id) {
			n += 2
		}
	}
	return n > len(members)
}

func (m *model) wait(draw int) { m.Wait = 10 + draw%64 }

func (m *model) post(id int, x api.Msg) {
	x.Term = m.Term
	m.posts = append(m.posts, to(id, x))
}

func (m *model) followTerm(term uint64) {
	if term != m.Term {
		m.Term, m.Vote = term, 0
	}
	m.Role, m.Leader, m.Votes, m.Peers = api.RoleFollow, 0, nil, nil
}

func (m *model) sendTo(p api.Peer) {
	if p.Next <= m.Log.Base {
		m.post(p.Id, install(0, m.Snap))
		return
	}
	x := appends(0, p.Next-1, m.termAt(p.Next-1), m.Commit)
	for _, e := range m.Log.Entries {
		if e.Index >= p.Next && len(x.Entries) < 8 {
			x.Entries = append(x.Entries, e)
		}
	}
	m.post(p.Id, x)
}

func (m *model) sendAll() {
	for _, p := range m.Peers {
		m.sendTo(p)
	}
}

// settle tries each number that is above Commit, the greatest one first.
func (m *model) settle() {
	for n := m.end(); n > m.Commit; n-- {
		has := []int{m.Id}
		for _, p := range m.Peers {
			if p.Match >= n {
				has = append(has, p.Id)
			}
		}
		if majority(m.members(), has) {
			if m.termAt(n) == m.Term {
				m.Commit = n
			}
			return
		}
	}
}

func (m *model) lead() {
	if m.end() == api.MaxNumber {
		return
	}
	m.Role, m.Leader, m.Votes, m.Peers = api.RoleLead, m.Id, nil, nil
	next := m.end() + 1
	for _, id := range m.members() {
		if id != m.Id {
			m.Peers = append(m.Peers, api.Peer{Id: id, Next: next})
		}
	}
	m.Log.Entries = append(m.Log.Entries, lead(next, m.Term))
	m.settle()
	m.sendAll()
}

func (m *model) stand(draw int) {
	m.Term++
	m.Vote, m.Role, m.Leader, m.Votes, m.Peers = m.Id, api.RoleStand, 0, []int{m.Id}, nil
	m.wait(draw)
	if majority(m.members(), m.Votes) {
		m.lead()
		return
	}
	for _, id := range m.members() {
		if id != m.Id {
			m.post(id, ask(0, m.end(), m.termAt(m.end())))
		}
	}
}

func (m *model) tick(draw int) {
	if m.Role == api.RoleLead {
		m.sendAll()
		return
	}
	if m.Wait > 0 {
		m.Wait--
	}
	if m.Wait > 0 {
		return
	}
	one := slices.Contains(m.members(), m.Id) || slices.Contains(m.membersAt(m.Commit), m.Id)
	if one && m.Term < api.MaxNumber {
		m.stand(draw)
	} else {
		m.wait(draw)
	}
}

func (m *model) take(from int, x api.Msg, draw int) {
	if x.Term < m.Term {
		switch x.Kind {
		case api.MsgAsk:
			m.post(from, voted(0, false))
		case api.MsgAppend, api.MsgInstall:
			m.post(from, appended(0, false, 0))
		}
		return
	}
	if x.Term > m.Term {
		m.followTerm(x.Term)
	}
	switch x.Kind {
	case api.MsgAsk:
		endTerm := m.termAt(m.end())
		newer := x.LogTerm > endTerm || x.LogTerm == endTerm && x.Index >= m.end()
		give := m.Role == api.RoleFollow && (m.Vote == 0 || m.Vote == from) && newer
		if give {
			m.Vote = from
			m.wait(draw)
		}
		m.post(from, voted(0, give))
	case api.MsgVoted:
		m.takeVoted(from, x.Ok)
	case api.MsgAppended:
		if m.Role == api.RoleLead {
			m.takeAppended(from, x)
		}
	case api.MsgAppend, api.MsgInstall:
		if m.Role == api.RoleLead {
			return
		}
		m.Role, m.Votes, m.Peers, m.Leader = api.RoleFollow, nil, nil, from
		m.wait(draw)
		if x.Kind == api.MsgAppend {
			m.takeAppend(from, x)
		} else {
			m.takeInstall(from, x)
		}
	}
}

func (m *model) takeVoted(from int, ok bool) {
	if !ok || m.Role != api.RoleStand {
		return
	}
	m.Votes = append(m.Votes, from)
	slices.Sort(m.Votes)
	m.Votes = slices.Compact(m.Votes)
	if majority(m.members(), m.Votes) {
		m.lead()
	}
}

func (m *model) takeAppended(from int, x api.Msg) {
	for i := range m.Peers {
		p := &m.Peers[i]
		switch {
		case p.Id != from, x.Ok && x.Index > m.end():
		case x.Ok:
			if x.Index > p.Match {
				p.Match = x.Index
			}
			if p.Match+1 > p.Next {
				p.Next = p.Match + 1
			}
			m.settle()
			if p.Next <= m.end() {
				m.sendTo(*p)
			}
		default:
			p.Next = p.Match + 1
			if x.Index > p.Match {
				p.Next = x.Index
			}
			if p.Next > m.end()+1 {
				p.Next = m.end() + 1
			}
			m.sendTo(*p)
		}
	}
}

// What comes of an append.
const (
	joined  = iota
	nothing // more
	above   // the end
	gap
)

// join is what the log has to be then, Index by Index, and what comes of it.
func (m *model) join(x api.Msg) ([]api.Entry, int) {
	if n := len(x.Entries); n > 0 && (x.Entries[n-1].Term > x.Term || x.Entries[n-1].Index > api.MaxNumber) {
		return nil, nothing
	}
	index, term := x.Index, x.LogTerm
	if index < m.Log.Base {
		index, term = m.Log.Base, m.Log.BaseTerm
	}
	if index > m.end() {
		return nil, above
	}
	if m.termAt(index) != term {
		return nil, gap
	}
	l := slices.Clone(m.Log.Entries)
	for _, e := range x.Entries {
		at := int(e.Index - m.Log.Base - 1)
		switch {
		case e.Index <= m.Log.Base:
		case at == len(l):
			l = append(l, e)
		case l[at].Term != e.Term && e.Index <= m.Commit:
			return nil, nothing
		case l[at].Term != e.Term:
			l = append(l[:at:at], e)
		}
	}
	last := m.Log.BaseTerm
	for _, e := range l {
		if e.Term < last {
			return nil, nothing
		}
		last = e.Term
	}
	return l, joined
}

func (m *model) takeAppend(from int, x api.Msg) {
	l, what := m.join(x)
	switch what {
	case above:
		m.post(from, appended(0, false, m.end()+1))
	case gap:
		if x.Index <= m.Commit {
			return
		}
		least := x.Index
		for least-1 > m.Commit && m.termAt(least-1) == m.termAt(x.Index) {
			least--
		}
		m.post(from, appended(0, false, least))
	case joined:
		last := x.Index
		if n := len(x.Entries); n > 0 {
			last = x.Entries[n-1].Index
		}
		m.Log.Entries = l
		m.Commit = max(m.Commit, min(x.Commit, last))
		m.post(from, appended(0, true, last))
	}
}

func (m *model) takeInstall(from int, x api.Msg) {
	s := x.Snap
	if s.Term > x.Term || s.Index > api.MaxNumber {
		return
	}
	if s.Index > m.Commit {
		var rest []api.Entry
		if s.Index <= m.end() && m.termAt(s.Index) == s.Term {
			rest = slices.DeleteFunc(m.Log.Entries, func(e api.Entry) bool { return e.Index <= s.Index })
		}
		m.Snap, m.Commit, m.Log = s, s.Index, api.Log{Base: s.Index, BaseTerm: s.Term, Entries: rest}
	}
	m.post(from, appended(0, true, s.Index))
}

// propose tells the Index, or why not; of e all but the Members is right, if it is an order.
func (m *model) propose(e api.Entry) (uint64, api.Errno) {
	e.Index, e.Term = m.end()+1, m.Term
	right := e.Kind == api.EntryOrder && len(e.Members) == 0 && len(e.Data) <= 4096 || e.Kind == api.EntryMembers && e.Data == "" && slices.Contains(allMembers(), brief(e.Members))
	switch {
	case m.Role != api.RoleLead:
		return 0, api.ErrLeader
	case !right:
		return 0, api.ErrForm
	case len(m.Log.Entries) >= 64, m.end() == api.MaxNumber:
		return 0, api.ErrFull
	}
	if e.Kind == api.EntryMembers {
		if why := m.refuse(e.Members); why != api.OK {
			return 0, why
		}
		m.look(e)
	}
	m.Log.Entries = append(m.Log.Entries, e)
	m.settle()
	m.sendAll()
	return e.Index, api.OK
}

func (m *model) refuse(then []int) api.Errno {
	if m.termAt(m.Commit) != m.Term {
		return api.ErrState
	}
	for _, e := range m.Log.Entries {
		if e.Index > m.Commit && e.Kind == api.EntryMembers {
			return api.ErrState
		}
	}
	other := 0
	for id := range 8 {
		if slices.Contains(then, id) != slices.Contains(m.members(), id) {
			other++
		}
	}
	switch {
	case other != 1:
		return api.ErrRange
	case !slices.Contains(then, m.Id):
		return api.ErrBusy
	}
	return api.OK
}

// look is at the peers of an entry's Members.
func (m *model) look(e api.Entry) {
	var l []api.Peer
	for _, id := range e.Members {
		if id == m.Id {
			continue
		}
		p := api.Peer{Id: id, Next: e.Index}
		for _, old := range m.Peers {
			if old.Id == id {
				p = old
			}
		}
		l = append(l, p)
	}
	m.Peers = l
}

func (m *model) trim(upto uint64, data string) api.Errno {
	switch {
	case upto <= m.Log.Base, upto > m.Commit:
		return api.ErrRange
	case len(data) > 65536-1024:
		return api.ErrForm
	}
	m.Snap = api.Snap{Index: upto, Term: m.termAt(upto), Members: m.membersAt(upto), Data: data}
	rest := slices.DeleteFunc(slices.Clone(m.Log.Entries), func(e api.Entry) bool { return e.Index <= upto })
	m.Log = api.Log{Base: upto, BaseTerm: m.Snap.Term, Entries: rest}
	return api.OK
}

// allMembers are all right members there are, in few words.
func allMembers() []string {
	var l []string
	for _, ids := range allSets() {
		l = append(l, brief(ids))
	}
	return l
}

// allSets are all that there are but the empty one, each rising.
func allSets() [][]int {
	var l [][]int
	for set := 1; set < 1<<7; set++ {
		var ids []int
		for i := range 7 {
			if set>>i&1 == 1 {
				ids = append(ids, i+1)
			}
		}
		l = append(l, ids)
	}
	return l
}

var brief = logtest.BriefMembers
