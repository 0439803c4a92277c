package core_test

import (
	"fmt"
	"math/rand"
	"slices"
	"strings"
	"testing"

	"gaffer/api"
	"gaffer/coretest"
	"gaffer/logtest"
)

// drawer draws replicas, and what they are given, of few Ids, Terms and entries.
type drawer struct{ *rand.Rand }

func draws(seed int64) drawer { return drawer{rand.New(rand.NewSource(seed))} }

func (d drawer) upto(n uint64) uint64 { return uint64(d.Int63n(int64(n) + 1)) }

// one tells whether it is one of so many.
func (d drawer) one(of int) bool { return d.Intn(of) == 0 }

// ids are some replicas, rising.
func (d drawer) ids(of int) []int {
	var l []int
	for id := 1; id <= of; id++ {
		if d.one(2) {
			l = append(l, id)
		}
	}
	return l
}

func (d drawer) members() []int {
	if l := d.ids(5); len(l) > 0 {
		return l
	}
	return []int{1 + d.Intn(5)}
}

// entries are so many behind index, of Terms from term on.
func (d drawer) entries(index, term uint64, n int) []api.Entry {
	var l []api.Entry
	for range n {
		index++
		if d.one(3) {
			term++
		}
		switch d.Intn(6) {
		case 0:
			l = append(l, lead(index, term))
		case 1:
			l = append(l, members(index, term, d.members()...))
		default:
			l = append(l, order(index, term, fmt.Sprint("drawn ", d.Intn(100))))
		}
	}
	return l
}

func (d drawer) raft() api.Raft {
	r := api.Raft{Id: 1 + d.Intn(5), First: d.members(), Role: api.Role(d.Intn(3)), Vote: d.Intn(6), Leader: d.Intn(6)}
	n := d.Intn(12)
	if d.one(40) {
		n = api.MaxOpen - 1 + d.Intn(3)
	}
	switch d.Intn(10) {
	case 0, 1, 2, 3:
		r.Log.Base, r.Log.BaseTerm = 1+d.upto(6), d.upto(2)
	case 4:
		r.Log.Base, r.Log.BaseTerm = api.MaxNumber-uint64(n)-d.upto(2), d.upto(2)
	}
	if r.Log.Base > 0 {
		r.Snap = api.Snap{Index: r.Log.Base, Term: r.Log.BaseTerm, Members: d.members(), Data: "drawn"}
	}
	r.Log.Entries = d.entries(r.Log.Base, r.Log.BaseTerm, n)
	end, term := of(r).end(), of(r).termAt(of(r).end())
	r.Term = max(1, term+d.upto(1))
	if d.one(30) {
		r.Term = api.MaxNumber
	}
	r.Commit = r.Log.Base + d.upto(end-r.Log.Base)
	r.Wait = d.Intn(3)
	if d.one(3) {
		r.Wait = d.Intn(75)
	}
	if r.Role == api.RoleStand || d.one(9) {
		r.Votes = d.ids(6)
	}
	if r.Role == api.RoleLead || d.one(9) {
		for _, id := range slices.DeleteFunc(d.ids(7), func(id int) bool { return id == r.Id }) {
			match := max(end, 4) - 4 + d.upto(min(end, 4))
			if d.one(3) {
				match = max(min(end, 7)-d.upto(min(end, 7)), end-min(end, 14))
			}
			r.Peers = append(r.Peers, api.Peer{Id: id, Next: match + 1 + d.upto(end-match), Match: match})
		}
	}
	return r
}

// near is n, or not far from it.
func (d drawer) near(n uint64) uint64 {
	switch d.Intn(8) {
	case 0:
		return n + 1 + d.upto(1)
	case 1:
		return max(n, 2) - 1 - d.upto(1)
	}
	return n
}

func (d drawer) msg(r api.Raft) api.Msg {
	m := of(r)
	term := max(1, d.near(r.Term))
	if d.one(60) {
		term = api.MaxNumber + d.upto(1)
	}
	index := r.Log.Base + d.upto(m.end()-r.Log.Base)
	if d.one(4) {
		index = d.near(m.end())
	}
	if d.one(6) {
		index = max(r.Log.Base, 3) - 3 + d.upto(3)
	}
	logTerm := d.near(m.termAt(min(max(index, r.Log.Base), m.end())))
	switch d.Intn(7) {
	case 0:
		return ask(term, d.near(m.end()), d.near(m.termAt(m.end())))
	case 1:
		return voted(term, !d.one(4))
	case 2:
		return appended(term, !d.one(3), index)
	case 3:
		s := api.Snap{Index: max(1, index), Term: logTerm, Members: d.members(), Data: "of another one"}
		if d.one(40) {
			s.Index = api.MaxNumber + d.upto(1)
		}
		return install(term, s)
	}
	x := appends(term, index, logTerm, d.near(r.Commit)+d.upto(3)*d.upto(1), d.entries(index, logTerm, d.Intn(9))...)
	d.mend(r, &x)
	return x
}

// mend makes the first entries of an append those that the replica has, mostly: their Terms are no more than the message's then.
func (d drawer) mend(r api.Raft, x *api.Msg) {
	same := d.Intn(9)
	for i, e := range x.Entries {
		for _, has := range r.Log.Entries {
			if has.Index == e.Index && i < same {
				x.Entries[i] = logtest.CloneEntries([]api.Entry{has})[0]
			}
		}
		if i > 0 && !d.one(20) {
			x.Entries[i].Term = max(x.Entries[i].Term, x.Entries[i-1].Term)
		}
		if !d.one(20) {
			x.Entries[i].Term = min(x.Entries[i].Term, x.Term)
		}
	}
}

func (d drawer) draw() int {
	if d.one(5) {
		return d.Intn(1 << 40)
	}
	return d.Intn(130)
}

// matches holds what a call tells against what the model does.
func matches(t *testing.T, what string, r api.Raft, got, want stepped) bool {
	t.Helper()
	if got.Why != want.Why || got.At != want.At || !coretest.Same(got.R, want.R) || !coretest.SamePosts(got.Posts, want.Posts) {
		t.Errorf("%s of %s:\nerror %d, %d, %s, %s;\nnot error %d, %d, %s, %s", what, coretest.Brief(r), got.Why, got.At, coretest.Brief(got.R), coretest.BriefPosts(got.Posts), want.Why, want.At, coretest.Brief(want.R), coretest.BriefPosts(want.Posts))
		return false
	}
	return true
}

// 16.2 to 16.5: replicas that are drawn, and whatever they are given, held against the model.
func TestDrawn(t *testing.T) {
	t.Parallel()
	d := draws(16)
	seen := map[string]int{}
	for range 60000 {
		r := d.raft()
		var got, want stepped
		what, name := "", ""
		switch d.Intn(6) {
		case 0:
			what = "Tick"
			got, want = d.ticks(t, r)
		case 1:
			what = "Propose"
			got, want = d.proposes(t, r)
		case 2:
			what = "Trim"
			got, want = d.trims(t, r)
		default:
			x, from, draw := d.msg(r), 1+d.Intn(6), d.draw()
			what, name = "Take", []string{"", " ask", " voted", " append", " appended", " install"}[x.Kind]
			got, want = take(t, what, r, from, x, draw), takes(r, from, x, draw)
			if !matches(t, logtest.BriefMsg(x), r, got, want) {
				return
			}
		}
		if !matches(t, what, r, got, want) {
			return
		}
		seen[what+name+": "+outcome(r, got)]++
	}
	for _, what := range strings.Split(strings.TrimSpace(outcomes), "\n") {
		if seen[what] < 4 {
			t.Errorf("%q comes %d times", what, seen[what])
		}
	}
}

// outcomes are those that are to come, a few times at least.
const outcomes = `
Tick: nothing
Tick: append
Tick: install
Tick: ask
Tick: ask, stands
Tick: nothing, stands
Tick: nothing, leads, settles, longer
Take ask: error 1
Take ask: error 4
Take ask: voted
Take ask: voted Ok
Take ask: voted, follows
Take ask: voted Ok, follows
Take voted: nothing
Take voted: nothing, follows
Take voted: append, leads, longer
Take voted: nothing, leads, settles, longer
Take append: nothing
Take append: nothing, follows
Take append: appended
Take append: appended, follows
Take append: appended Ok
Take append: appended Ok, settles
Take append: appended Ok, longer
Take append: appended Ok, settles, longer
Take append: appended Ok, shorter
Take append: appended Ok, settles, shorter
Take append: appended Ok, another log
Take append: appended Ok, settles, another log
Take append: appended Ok, follows, settles, longer
Take appended: nothing
Take appended: nothing, settles
Take appended: append
Take appended: append, settles
Take appended: install
Take appended: nothing, follows
Take install: nothing
Take install: nothing, follows
Take install: appended
Take install: appended Ok
Take install: appended Ok, settles, trimmed
Take install: appended Ok, settles, emptied
Take install: appended Ok, follows, settles, emptied
Propose: error 16
Propose: error 4
Propose: error 11
Propose: error 10
Propose: error 1
Propose: error 12
Propose: append, longer
Propose: install, longer
Propose: nothing, longer
Propose: append, settles, longer
Propose: nothing, settles, longer
Trim: error 1
Trim: error 4
Trim: nothing, trimmed
Trim: nothing, emptied
`

func (d drawer) ticks(t *testing.T, r api.Raft) (stepped, stepped) {
	draw := d.draw()
	m := of(r)
	m.tick(draw)
	return tick(t, "Tick", r, draw), m.told(0)
}

func (d drawer) proposes(t *testing.T, r api.Raft) (stepped, stepped) {
	e := api.Entry{Kind: api.EntryOrder, Data: "new", Index: d.Uint64(), Term: d.Uint64()}
	if d.one(2) {
		e = api.Entry{Kind: api.EntryMembers, Members: d.next(of(r).members())}
	}
	if d.one(10) {
		e = logtest.WrongEntries()[d.Intn(len(logtest.WrongEntries()))]
	}
	if d.one(2) {
		r.Role = api.RoleLead
	}
	m := of(r)
	at, why := m.propose(e)
	want := stepped{Why: why}
	if why == api.OK {
		want = m.told(at)
	}
	return propose(t, "Propose", r, e), want
}

// next is one more, or one fewer, mostly.
func (d drawer) next(members []int) []int {
	if d.one(8) {
		return d.ids(7)
	}
	id := 1 + d.Intn(7)
	if at := slices.Index(members, id); at >= 0 {
		return slices.Delete(members, at, at+1)
	}
	members = append(members, id)
	slices.Sort(members)
	return members
}

func (d drawer) trims(t *testing.T, r api.Raft) (stepped, stepped) {
	upto := max(r.Log.Base, 1) - 1 + d.upto(r.Commit-r.Log.Base+2)
	data := strings.Repeat("x", []int{0, 5, 64512, 64513}[d.Intn(4)])
	m := of(r)
	want := stepped{Why: m.trim(upto, data)}
	if want.Why == api.OK {
		want = m.told(0)
	}
	return trim(t, "Trim", r, upto, data), want
}

func takes(r api.Raft, from int, x api.Msg, draw int) stepped {
	switch {
	case from == r.Id:
		return stepped{Why: api.ErrRange}
	case x.Term > api.MaxNumber:
		return stepped{Why: api.ErrForm}
	}
	m := of(r)
	m.take(from, x, draw)
	return m.told(0)
}

// outcome is in few words what came of a call, so that all that may come of one can be counted.
func outcome(r api.Raft, got stepped) string {
	if got.Why != api.OK {
		return fmt.Sprint("error ", got.Why)
	}
	s := "nothing"
	if len(got.Posts) > 0 {
		m := got.Posts[0].Msg
		s = []string{"", "ask", "voted", "append", "appended", "install"}[m.Kind]
		if m.Ok {
			s += " Ok"
		}
	}
	if got.R.Role != r.Role {
		s += []string{", follows", ", stands", ", leads"}[got.R.Role]
	}
	if got.R.Commit > r.Commit {
		s += ", settles"
	}
	switch end, was := of(got.R).end(), of(r).end(); {
	case got.R.Log.Base > r.Log.Base && len(got.R.Log.Entries) > 0:
		s += ", trimmed"
	case got.R.Log.Base > r.Log.Base:
		s += ", emptied"
	case end > was:
		s += ", longer"
	case end < was:
		s += ", shorter"
	case !logtest.SameLog(got.R.Log, r.Log):
		s += ", another log"
	}
	return s
}
