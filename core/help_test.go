package core_test

import (
	"math"
	"slices"
	"testing"

	"gaffer/api"
	"gaffer/core"
	"gaffer/coretest"
	"gaffer/logtest"
	"gaffer/msg"
)

const most = math.MaxUint64

// What the tests of all that has entries, or replicas, have.
var (
	lead      = logtest.Lead
	order     = logtest.Order
	members   = logtest.Members
	following = coretest.Following
	standing  = coretest.Standing
	leading   = coretest.Leading
	fresh     = coretest.Fresh
	with      = coretest.With
)

// The messages.

func ask(term, index, logTerm uint64) api.Msg {
	return api.Msg{Kind: api.MsgAsk, Term: term, Index: index, LogTerm: logTerm}
}

func voted(term uint64, ok bool) api.Msg {
	return api.Msg{Kind: api.MsgVoted, Term: term, Ok: ok}
}

func appends(term, index, logTerm, commit uint64, l ...api.Entry) api.Msg {
	return api.Msg{Kind: api.MsgAppend, Term: term, Index: index, LogTerm: logTerm, Commit: commit, Entries: l}
}

func appended(term uint64, ok bool, index uint64) api.Msg {
	return api.Msg{Kind: api.MsgAppended, Term: term, Ok: ok, Index: index}
}

func install(term uint64, s api.Snap) api.Msg {
	return api.Msg{Kind: api.MsgInstall, Term: term, Snap: s}
}

func to(id int, m api.Msg) api.Post { return api.Post{To: id, Msg: m} }

// stepped is all that a call tells; of those that have no Index or no posts these are zero.
type stepped struct {
	R     api.Raft
	At    uint64
	Posts []api.Post
	Why   api.Errno
}

// The calls, each asked by anew, and held against what goes for all of them.

func newOne(t *testing.T, what string, id int, first []int, h api.Hard, s api.Snap, l []api.Entry, draw int) stepped {
	t.Helper()
	type args struct {
		First []int
		S     api.Snap
		L     []api.Entry
	}
	got := anew(t, what, args{first, s, l}, func(a args) stepped {
		r, why := core.New(id, a.First, h, a.S, a.L, draw)
		return stepped{R: r, Why: why}
	})
	return sound(t, what, got)
}

func tick(t *testing.T, what string, r api.Raft, draw int) stepped {
	t.Helper()
	type args struct{ R api.Raft }
	got := anew(t, what, args{r}, func(a args) stepped {
		r, posts, why := core.Tick(a.R, draw)
		return stepped{R: r, Posts: posts, Why: why}
	})
	return forth(t, what, r, got)
}

func take(t *testing.T, what string, r api.Raft, from int, m api.Msg, draw int) stepped {
	t.Helper()
	type args struct {
		R api.Raft
		M api.Msg
	}
	got := anew(t, what, args{r, m}, func(a args) stepped {
		r, posts, why := core.Take(a.R, from, a.M, draw)
		return stepped{R: r, Posts: posts, Why: why}
	})
	return forth(t, what, r, got)
}

func propose(t *testing.T, what string, r api.Raft, e api.Entry) stepped {
	t.Helper()
	type args struct {
		R api.Raft
		E api.Entry
	}
	got := anew(t, what, args{r, e}, func(a args) stepped {
		r, at, posts, why := core.Propose(a.R, a.E)
		return stepped{r, at, posts, why}
	})
	return forth(t, what, r, got)
}

func trim(t *testing.T, what string, r api.Raft, upto uint64, data string) stepped {
	t.Helper()
	type args struct{ R api.Raft }
	got := anew(t, what, args{r}, func(a args) stepped {
		r, why := core.Trim(a.R, upto, data)
		return stepped{R: r, Why: why}
	})
	return forth(t, what, r, got)
}

// sound holds 16.7: a right replica, and right messages to others; and P2: with an error nothing else.
func sound(t *testing.T, what string, got stepped) stepped {
	t.Helper()
	if got.Why != api.OK {
		if !coretest.Same(got.R, api.Raft{}) || got.At != 0 || len(got.Posts) != 0 {
			t.Errorf("%s: beside error %d: %s, %d, %s", what, got.Why, coretest.Brief(got.R), got.At, coretest.BriefPosts(got.Posts))
		}
		return got
	}
	if why := core.Check(got.R); why != api.OK {
		t.Errorf("%s: what became of it is not right: %s", what, coretest.Brief(got.R))
	}
	for _, p := range got.Posts {
		if p.To < 1 || p.To > api.MaxReplicas || p.To == got.R.Id || msg.Check(p.Msg) != api.OK || p.Msg.Term != got.R.Term {
			t.Errorf("%s: what is sent is not right: %s", what, coretest.BriefPosts(got.Posts))
		}
	}
	return got
}

// forth holds 16.8, too: Term and Commit never fall, the vote of a Term never changes, and what the log has up to Commit never does.
func forth(t *testing.T, what string, was api.Raft, got stepped) stepped {
	t.Helper()
	now := got.R
	if got.Why != api.OK {
		return sound(t, what, got)
	}
	if now.Id != was.Id || !slices.Equal(now.First, was.First) || now.Term < was.Term || now.Commit < was.Commit || now.Term == was.Term && was.Vote != 0 && now.Vote != was.Vote {
		t.Errorf("%s: it goes back: %s, was %s", what, coretest.Brief(now), coretest.Brief(was))
	}
	for _, e := range now.Log.Entries {
		if e.Index > was.Log.Base && e.Index <= was.Commit && !logtest.SameEntry(e, was.Log.Entries[e.Index-was.Log.Base-1]) {
			t.Errorf("%s: what is settled is another one: %s, was %s", what, coretest.Brief(now), coretest.Brief(was))
		}
	}
	return sound(t, what, got)
}

// becomes holds what became of a replica, and what it sent, against what is to be.
func becomes(t *testing.T, what string, got stepped, want api.Raft, posts ...api.Post) {
	t.Helper()
	if got.Why != api.OK || !coretest.Same(got.R, want) || !coretest.SamePosts(got.Posts, posts) {
		t.Errorf("%s: error %d, %s, %s;\nnot %s, %s", what, got.Why, coretest.Brief(got.R), coretest.BriefPosts(got.Posts), coretest.Brief(want), coretest.BriefPosts(posts))
	}
}

// refused is of an error, beside which there is nothing.
func refused(t *testing.T, what string, got stepped, want api.Errno) {
	t.Helper()
	if got.Why != want {
		t.Errorf("%s: error %d, not %d", what, got.Why, want)
	}
}
