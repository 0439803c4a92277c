package core_test

import (
	"math"
	"slices"
	"testing"

	"gaffer/api"
	"gaffer/core"
	"gaffer/coretest"
	"gaffer/logtest"
	"gaffer/msg"
)

const most = math.MaxUint64

// What the tests of all that has entries, messages or replicas have.
var (
	lead      = logtest.Lead
	order     = logtest.Order
	members   = logtest.Members
	ask       = logtest.Ask
	voted     = logtest.Voted
	appends   = logtest.Appends
	appended  = logtest.Appended
	install   = logtest.Install
	following = coretest.Following
	standing  = coretest.Standing
	leading   = coretest.Leading
	fresh     = coretest.Fresh
	with      = coretest.With
)

func to(id int, m api.Msg) api.Post { return api.Post{To: id, Msg: m} }

// given are all lists that a call is handed, stepped is all that it tells; what it has not is zero.
type given struct {
	First []int
	R     api.Raft
	S     api.Snap
	L     []api.Entry
	M     api.Msg
	E     api.Entry
}

type stepped struct {
	R         api.Raft
	At        uint64
	Posts     []api.Post
	Now, Sure []int
	Why       api.Errno
}

// The calls, each asked by anew, and held against what goes for all of them.

func newOne(t *testing.T, what string, id int, first []int, h api.Hard, s api.Snap, l []api.Entry, draw int) stepped {
	t.Helper()
	return sound(t, what, anew(t, what, given{First: first, S: s, L: l}, func(g given) stepped {
		r, why := core.New(id, g.First, h, g.S, g.L, draw)
		return stepped{R: r, Why: why}
	}))
}

func tick(t *testing.T, what string, r api.Raft, draw int) stepped {
	t.Helper()
	return forth(t, what, r, anew(t, what, given{R: r}, func(g given) stepped {
		r, posts, why := core.Tick(g.R, draw)
		return stepped{R: r, Posts: posts, Why: why}
	}))
}

func take(t *testing.T, what string, r api.Raft, from int, m api.Msg, draw int) stepped {
	t.Helper()
	return forth(t, what, r, anew(t, what, given{R: r, M: m}, func(g given) stepped {
		r, posts, why := core.Take(g.R, from, g.M, draw)
		return stepped{R: r, Posts: posts, Why: why}
	}))
}

func propose(t *testing.T, what string, r api.Raft, e api.Entry) stepped {
	t.Helper()
	return forth(t, what, r, anew(t, what, given{R: r, E: e}, func(g given) stepped {
		r, at, posts, why := core.Propose(g.R, g.E)
		return stepped{R: r, At: at, Posts: posts, Why: why}
	}))
}

func trim(t *testing.T, what string, r api.Raft, upto uint64, data string) stepped {
	t.Helper()
	return forth(t, what, r, anew(t, what, given{R: r}, func(g given) stepped {
		r, why := core.Trim(g.R, upto, data)
		return stepped{R: r, Why: why}
	}))
}

func membersOf(t *testing.T, what string, r api.Raft) stepped {
	t.Helper()
	return anew(t, what, given{R: r}, func(g given) stepped {
		now, sure, why := core.Members(g.R)
		return stepped{Now: now, Sure: sure, Why: why}
	})
}

// sound holds 16.7: a right replica, and right messages to others; and P2: with an error nothing else.
func sound(t *testing.T, what string, got stepped) stepped {
	t.Helper()
	if got.Why != api.OK {
		if !coretest.Same(got.R, api.Raft{}) || got.At != 0 || len(got.Posts) != 0 {
			t.Errorf("%s: beside error %d: %s, %d, %s", what, got.Why, coretest.Brief(got.R), got.At, coretest.BriefPosts(got.Posts))
		}
		return got
	}
	if why := core.Check(got.R); why != api.OK {
		t.Errorf("%s: what became of it is not right: %s", what, coretest.Brief(got.R))
	}
	for _, p := range got.Posts {
		if p.To < 1 || p.To > api.MaxReplicas || p.To == got.R.Id || msg.Check(p.Msg) != api.OK || p.Msg.Term != got.R.Term {
			t.Errorf("%s: what is sent is not right: %s", what, coretest.BriefPosts(got.Posts))
		}
	}
	return got
}

// forth holds 16.8, too: Term and Commit never fall, the vote of a Term never changes, and what the log has up to Commit never does.
func forth(t *testing.T, what string, was api.Raft, got stepped) stepped {
	t.Helper()
	now := got.R
	if got.Why != api.OK {
		return sound(t, what, got)
	}
	if now.Id != was.Id || !slices.Equal(now.First, was.First) || now.Term < was.Term || now.Commit < was.Commit || now.Term == was.Term && was.Vote != 0 && now.Vote != was.Vote {
		t.Errorf("%s: it goes back: %s, was %s", what, coretest.Brief(now), coretest.Brief(was))
	}
	for _, e := range now.Log.Entries {
		if e.Index > was.Log.Base && e.Index <= was.Commit && !logtest.SameEntry(e, was.Log.Entries[e.Index-was.Log.Base-1]) {
			t.Errorf("%s: what is settled is another one: %s, was %s", what, coretest.Brief(now), coretest.Brief(was))
		}
	}
	return sound(t, what, got)
}

// becomes holds what became of a replica, and what it sent, against what is to be.
func becomes(t *testing.T, what string, got stepped, want api.Raft, posts ...api.Post) {
	t.Helper()
	if got.Why != api.OK || !coretest.Same(got.R, want) || !coretest.SamePosts(got.Posts, posts) {
		t.Errorf("%s: error %d, %s, %s;\nnot %s, %s", what, got.Why, coretest.Brief(got.R), coretest.BriefPosts(got.Posts), coretest.Brief(want), coretest.BriefPosts(posts))
	}
}

// refused is of an error, beside which there is nothing.
func refused(t *testing.T, what string, got stepped, want api.Errno) {
	t.Helper()
	if got.Why != want {
		t.Errorf("%s: error %d, not %d", what, got.Why, want)
	}
}
