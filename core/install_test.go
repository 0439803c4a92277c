package core_test

import (
	"strings"
	"testing"

	"gaffer/api"
	"gaffer/coretest"
)

// snapOf is another one's.
func snapOf(index, term uint64) api.Snap {
	return api.Snap{Index: index, Term: term, Members: []int{2, 4, 6}, Data: "of another one"}
}

// 16.3, install: up to Commit nothing is changed; above it the log is what is behind an entry of that Index and Term, or nothing.
func TestInstall(t *testing.T) {
	r := following() // 3 to 7 of Terms 1, 2, 2, 4, 4; Commit 5
	l := r.Log.Entries
	for _, one := range []struct {
		index, term uint64
		taken       bool
		rest        []api.Entry
	}{
		{1, 0, false, nil}, {1, 1, false, nil}, {2, 1, false, nil}, {2, 2, false, nil}, {3, 1, false, nil}, {4, 4, false, nil}, {5, 2, false, nil}, {5, 3, false, nil},
		{6, 4, true, l[4:]}, {6, 3, true, nil}, {6, 0, true, nil}, {7, 4, true, nil}, {7, 3, true, nil},
		{8, 4, true, nil}, {8, 2, true, nil}, {8, 0, true, nil}, {1 << 40, 4, true, nil}, {api.MaxNumber, 4, true, nil},
	} {
		s := snapOf(one.index, one.term)
		want := heeds(r, 3)
		if one.taken {
			want.Snap, want.Commit, want.Log = s, one.index, api.Log{Base: one.index, BaseTerm: one.term, Entries: one.rest}
		}
		becomes(t, "an install", take(t, "an install", r, 3, install(4, s), 3), want, ok(one.index))
	}
	for commit, taken := range map[uint64]bool{2: true, 3: true, 4: false, 5: false, 7: false} {
		r.Commit = commit
		want := heeds(r, 3)
		if taken {
			want.Snap, want.Commit, want.Log = snapOf(4, 2), 4, api.Log{Base: 4, BaseTerm: 2, Entries: l[2:]}
		}
		becomes(t, "of 4", take(t, "of 4", r, 3, install(4, snapOf(4, 2)), 3), want, ok(4))
	}
	none := with(fresh(1, 1, 2), func(r *api.Raft) { r.Term = 4 })
	got := take(t, "of nothing", none, 3, install(4, snapOf(9, 3)), 3)
	becomes(t, "of nothing", got, with(heeds(none, 3), func(r *api.Raft) {
		r.Snap, r.Commit, r.Log = snapOf(9, 3), 9, api.Log{Base: 9, BaseTerm: 3}
	}), ok(9))
	are(t, "of nothing", got.R, []int{2, 4, 6}, []int{2, 4, 6})
	big := snapOf(9, 3)
	big.Members, big.Data = []int{1, 2, 3, 4, 5, 6, 7}, strings.Repeat("\x00", 64512)
	if got := take(t, "all that may be", none, 3, install(4, big), 3); got.R.Snap.Data != big.Data || len(got.R.Snap.Members) != 7 {
		t.Errorf("all that may be: %s", coretest.Brief(got.R))
	}
}

// 16.3, install: of a Term above the message's, or an Index above MaxNumber, nothing more is done than to heed the leader.
func TestInstallNothing(t *testing.T) {
	r := following()
	for _, s := range []api.Snap{snapOf(9, 5), snapOf(9, most), snapOf(6, 5), snapOf(3, 5), snapOf(1, 5), snapOf(api.MaxNumber+1, 4), snapOf(api.MaxNumber+1, 5), snapOf(most, 0)} {
		becomes(t, "nothing", take(t, "nothing", r, 3, install(4, s), 3), heeds(r, 3))
	}
}

// 16.3, install: as an append, of each Role and Term.
func TestInstallTerms(t *testing.T) {
	taken := func(r *api.Raft) {
		r.Snap, r.Commit, r.Log = snapOf(9, 3), 9, api.Log{Base: 9, BaseTerm: 3}
	}
	for what, r := range map[string]api.Raft{"follows": following(), "stands": standing(), "leads": leading()} {
		r.Votes = []int{2, 7}
		for _, s := range []api.Snap{snapOf(9, 3), snapOf(9, 9), snapOf(3, 1), snapOf(most, 1)} {
			for _, term := range []uint64{1, 3} {
				becomes(t, what+", lower", take(t, what, r, 1, install(term, s), 3), r, to(1, appended(4, false, 0)))
			}
			if r.Role == api.RoleLead {
				becomes(t, what+", the same", take(t, what, r, 1, install(4, s), 3), r)
			}
		}
		if r.Role != api.RoleLead {
			becomes(t, what+", the same", take(t, what, r, 1, install(4, snapOf(9, 3)), 3), with(heeds(r, 1), taken), to(1, appended(4, true, 9)))
		}
		for _, term := range []uint64{5, api.MaxNumber} {
			becomes(t, what+", higher", take(t, what, r, 1, install(term, snapOf(9, 3)), 3), with(follows(r, term, 1), taken), to(1, appended(term, true, 9)))
			becomes(t, what+", higher, below Commit", take(t, what, r, 1, install(term, snapOf(3, 1)), 3), follows(r, term, 1), to(1, appended(term, true, 3)))
			becomes(t, what+", higher, a Term above", take(t, what, r, 1, install(term, snapOf(9, term+1)), 3), follows(r, term, 1))
		}
		becomes(t, what+", of the same Term as the message", take(t, what, r, 1, install(5, snapOf(9, 5)), 3), with(follows(r, 5, 1), func(r *api.Raft) {
			r.Snap, r.Commit, r.Log = snapOf(9, 5), 9, api.Log{Base: 9, BaseTerm: 5}
		}), to(1, appended(5, true, 9)))
	}
}
