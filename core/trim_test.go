package core_test

import (
	"math"
	"strings"
	"testing"

	"gaffer/api"
	"gaffer/coretest"
	"gaffer/logtest"
)

// 16.5: a snapshot of what is settled, with the members that were there, takes the place of the log up to it: whatever the Role.
func TestTrim(t *testing.T) {
	for what, r := range map[string]api.Raft{"follows": following(), "stands": standing(), "leads": leading()} {
		r.Commit = 7
		l := r.Log.Entries
		for upto, want := range map[uint64]struct {
			term    uint64
			members []int
		}{3: {1, []int{1, 2}}, 4: {2, []int{1, 2, 3}}, 5: {2, []int{1, 2, 3}}, 6: {4, []int{1, 2, 3, 5}}, 7: {4, []int{1, 2, 3, 5}}} {
			for _, data := range []string{"", "new", strings.Repeat("\x00", 64512)} {
				got := trim(t, what, r, upto, data)
				becomes(t, what, got, with(r, func(r *api.Raft) {
					r.Snap = api.Snap{Index: upto, Term: want.term, Members: want.members, Data: data}
					r.Log = api.Log{Base: upto, BaseTerm: want.term, Entries: l[upto-2:]}
				}))
				are(t, what, got.R, []int{1, 2, 3, 5}, []int{1, 2, 3, 5})
			}
		}
	}
	r := with(fresh(1, 1), func(r *api.Raft) { r.Log, r.Term, r.Commit = logtest.Row(0, 0, 0, 1), 1, 1 })
	becomes(t, "of First", trim(t, "of First", r, 1, "x"), with(r, func(r *api.Raft) {
		r.Snap, r.Log = api.Snap{Index: 1, Members: []int{1}, Data: "x"}, api.Log{Base: 1, Entries: r.Log.Entries[1:]}
	}))
	r.Snap.Members, r.Snap.Data = []int{3}, "of no Index"
	if got := trim(t, "a snapshot of no Index", r, 1, "x").R.Snap; !logtest.SameSnap(got, api.Snap{Index: 1, Members: []int{1}, Data: "x"}) {
		t.Errorf("a snapshot of no Index: %s", logtest.BriefSnap(got))
	}
	last := coretest.Ended(leading(), api.MaxNumber)
	last.Commit++
	becomes(t, "the last end", trim(t, "the last end", last, api.MaxNumber, "x"), with(last, func(r *api.Raft) {
		r.Snap, r.Log = api.Snap{Index: api.MaxNumber, Term: 3, Members: r.Log.Entries[1].Members, Data: "x"}, api.Log{Base: api.MaxNumber, BaseTerm: 3}
	}))
}

// 16.5: ErrRange at Base and below it, and above Commit; then ErrForm of Data that is too long.
func TestTrimErrors(t *testing.T) {
	long := strings.Repeat("x", 64513)
	for what, r := range map[string]api.Raft{"follows": following(), "stands": standing(), "leads": leading()} {
		for commit := uint64(2); commit <= 7; commit++ {
			r.Commit = commit
			for _, upto := range []uint64{0, 1, 2, 3, 4, 5, 6, 7, 8, 9, 1<<32 + 4, api.MaxNumber, most} {
				inside := upto > 2 && upto <= commit
				want := api.ErrRange
				if inside {
					want = api.ErrForm
				}
				refused(t, what+", too long", trim(t, what, r, upto, long), want)
				if !inside {
					refused(t, what, trim(t, what, r, upto, "x"), api.ErrRange)
				}
			}
		}
	}
	refused(t, "of nothing", trim(t, "of nothing", fresh(1, 1), 0, ""), api.ErrRange)
	refused(t, "of nothing", trim(t, "of nothing", fresh(1, 1), 1, ""), api.ErrRange)
}

// 16.5: behind a Trim a peer whose Next is up to it is sent the snapshot.
func TestTrimThenSend(t *testing.T) {
	r := settledAll()
	got := trim(t, "leads", r, 6, "new").R
	s := api.Snap{Index: 6, Term: 4, Members: []int{1, 2, 3, 5}, Data: "new"}
	becomes(t, "leads", tick(t, "leads", got, 0), got, to(1, appends(4, 7, 4, 7)), to(3, install(4, s)), to(5, install(4, s)))
	becomes(t, "has it then", take(t, "has it then", got, 5, appended(4, true, 6), 0), peered(got, 5, 7, 6), to(5, appends(4, 6, 4, 7, r.Log.Entries[4])))
}

// 16.5: all replicas at all edges, held against the model.
func TestTrimOfAll(t *testing.T) {
	done := 0
	for what, r := range coretest.Rights() {
		for _, upto := range []uint64{0, r.Log.Base - 1, r.Log.Base, r.Log.Base + 1, r.Commit - 1, r.Commit, r.Commit + 1, math.MaxUint64} {
			m := of(r)
			want := stepped{Why: m.trim(upto, "x")}
			if want.Why == api.OK {
				want = m.told(0)
				done++
			}
			if !matches(t, what, r, trim(t, what, r, upto, "x"), want) {
				return
			}
		}
	}
	if done < 50 {
		t.Errorf("only %d trimmed", done)
	}
}
