package core_test

import (
	"slices"
	"testing"

	"gaffer/api"
	"gaffer/core"
	"gaffer/coretest"
	"gaffer/logtest"
	"gaffer/memtest"
)

// anew holds 16.6 and P3: what is handed in stays as it was, the room behind its lists, too; asked again the answer is the same; and no two lists of all these share memory.
func anew(t *testing.T, what string, g given, call func(g given) stepped) stepped {
	t.Helper()
	got, wrong := memtest.Anew(g, kindOfGiven(), call, kindOfStepped())
	if wrong != "" {
		t.Errorf("%s: %s", what, wrong)
	}
	return got
}

func kindOfGiven() memtest.Kind[given] {
	return memtest.Kind[given]{Visit: func(v *memtest.Visitor, g *given) {
		logtest.VisitMembers(v, &g.First)
		coretest.Visit(v, &g.R)
		logtest.VisitSnap(v, &g.S)
		logtest.VisitEntries(v, &g.L)
		logtest.VisitMsg(v, &g.M)
		logtest.VisitMembers(v, &g.E.Members)
	}}
}

func kindOfStepped() memtest.Kind[stepped] {
	return memtest.Kind[stepped]{
		Visit: func(v *memtest.Visitor, s *stepped) {
			coretest.Visit(v, &s.R)
			coretest.VisitPosts(v, &s.Posts)
			logtest.VisitMembers(v, &s.Now)
			logtest.VisitMembers(v, &s.Sure)
		},
		Same: func(a, b stepped) bool {
			return coretest.Same(a.R, b.R) && a.At == b.At && coretest.SamePosts(a.Posts, b.Posts) && slices.Equal(a.Now, b.Now) && slices.Equal(a.Sure, b.Sure) && a.Why == b.Why
		},
	}
}

// 16.6: if the lists that are handed in share memory among themselves, those of the answer do not.
func TestListsApart(t *testing.T) {
	for what, call := range map[string]func(r api.Raft, one []int) stepped{
		"New": func(r api.Raft, one []int) stepped {
			r, why := core.New(2, one[:2], api.Hard{Term: 4}, r.Snap, r.Log.Entries, 0)
			return stepped{R: r, Why: why}
		},
		"Members": func(r api.Raft, one []int) stepped {
			now, sure, why := core.Members(r)
			return stepped{Now: now, Sure: sure, Why: why}
		},
		"Tick": func(r api.Raft, one []int) stepped {
			r, posts, why := core.Tick(r, 0)
			return stepped{R: r, Posts: posts, Why: why}
		},
		"Take": func(r api.Raft, one []int) stepped {
			r, posts, why := core.Take(r, 3, api.Msg{Kind: api.MsgAppended, Term: 4}, 0)
			return stepped{R: r, Posts: posts, Why: why}
		},
		"Take of an install": func(r api.Raft, one []int) stepped {
			r, posts, why := core.Take(r, 3, install(5, api.Snap{Index: 9, Members: one[:2]}), 0)
			return stepped{R: r, Posts: posts, Why: why}
		},
		"Propose": func(r api.Raft, one []int) stepped {
			r, at, posts, why := core.Propose(r, api.Entry{Kind: api.EntryMembers, Members: one[:5]})
			return stepped{R: r, At: at, Posts: posts, Why: why}
		},
		"Trim": func(r api.Raft, one []int) stepped {
			r, why := core.Trim(r, 5, "")
			return stepped{R: r, Why: why}
		},
	} {
		one := []int{1, 2, 3, 4, 5, 6, 7}
		r := leading()
		r.Commit = 7
		r.First, r.Votes, r.Snap.Members = one[:3], one, one[1:3]
		r.Log.Entries[1].Members, r.Log.Entries[3].Members = one[:3], one[:4]
		was := coretest.Clone(r)
		got := call(r, one)
		if got.Why != api.OK || !memtest.Apart(got, kindOfStepped()) {
			t.Errorf("%s: two lists share memory, or error %d", what, got.Why)
		}
		if !coretest.Same(r, was) { // Apart has written all over the answer
			t.Errorf("%s: the answer shares memory with what was handed in", what)
		}
	}
}
