package replica_test

import (
	"slices"
	"strconv"
	"testing"

	"gaffer/api"
	"gaffer/coretest"
	"gaffer/disktest"
	"gaffer/ledgertest"
	"gaffer/logtest"
	"gaffer/pack"
	"gaffer/replicatest"
	"gaffer/snap"
)

// takes is a Take of a message, from 3, with draw 3.
func takes(t *testing.T, what string, m api.Msg) func(x api.Replica) stepped {
	return func(x api.Replica) stepped { return take(t, what, x, 3, packet(m), 3) }
}

// heeds is what an append, or an install, of 3 makes of a Raft that does not lead its Term.
func heeds(r *api.Raft) { r.Role, r.Leader, r.Votes, r.Peers, r.Wait = api.RoleFollow, 3, nil, nil, 13 }

// 17.3: ErrForm of what is no packet, or an install of no state, ahead of core's errors; the replica stays as it was.
func TestTakeErrors(t *testing.T) {
	good := packet(ask(4, 7, 4))
	above := packet(ask(api.MaxNumber+1, 7, 4))
	empty, some := state(9, 4), state(9, 4)
	empty.Data, some.Data = "", "state"
	for role, x := range map[string]api.Replica{"follows": waiting(following(), 4, 6, 7), "stands": standing(), "leads": leading()} {
		for what, one := range map[string]struct {
			from int
			data string
			draw int
			want api.Errno
		}{
			"nothing":                  {3, "", 0, api.ErrForm},
			"no packet":                {3, "?", 0, api.ErrForm},
			"cut short":                {3, good[:len(good)-1], 0, api.ErrForm},
			"and more":                 {3, good + "\x00", 0, api.ErrForm},
			"a bit turned":             {3, good[:8] + string(good[8]^1) + good[9:], 0, api.ErrForm},
			"no message":               {3, framed(pack.Number(9) + pack.Number(1)), 0, api.ErrForm},
			"of no Term":               {3, framed(pack.Number(2) + pack.Number(0) + pack.Number(1)), 0, api.ErrForm},
			"no packet, of nobody":     {0, "?", -1, api.ErrForm},
			"an empty state":           {3, packet(install(4, empty)), 0, api.ErrForm},
			"no state":                 {3, packet(install(4, some)), 0, api.ErrForm},
			"no state, lower Term":     {3, packet(install(1, some)), 0, api.ErrForm},
			"no state, done":           {3, packet(install(4, api.Snap{Index: 5, Term: 2, Members: []int{1}, Data: "state"})), 0, api.ErrForm},
			"no state, a Term above":   {3, packet(install(api.MaxNumber+1, some)), 0, api.ErrForm},
			"no state, and no draw":    {3, packet(install(4, some)), -1, api.ErrForm},
			"no state, of nobody":      {0, packet(install(4, some)), 0, api.ErrForm},
			"draw":                     {3, good, -1, api.ErrRange},
			"draw far below":           {3, good, -1 << 63, api.ErrRange},
			"of nobody":                {0, good, 0, api.ErrRange},
			"of itself":                {2, good, 0, api.ErrRange},
			"of 8":                     {8, good, 0, api.ErrRange},
			"of -1":                    {-1, good, 0, api.ErrRange},
			"an install, of nobody":    {0, packet(install(9, state(9, 4))), 0, api.ErrRange},
			"of nobody, a Term above":  {0, above, 0, api.ErrRange},
			"no draw, and above":       {3, above, -1, api.ErrRange},
			"a Term above":             {3, above, 0, api.ErrForm},
			"an install, a Term above": {3, packet(install(api.MaxNumber+1, state(9, 4))), 0, api.ErrForm},
		} {
			stays(t, role+", "+what, take(t, role+", "+what, x, one.from, one.data, one.draw), x, one.want)
		}
	}
}

// 17.3: a vote lasts ahead of being sent; what changes nothing is not kept.
func TestTakeAsk(t *testing.T) {
	x := raft(following(), func(r *api.Raft) { r.Vote = 0 })
	want := raft(x, func(r *api.Raft) { r.Vote, r.Wait = 3, 13 })
	m := ask(4, 7, 4)
	becomes(t, "given", takes(t, "given", m)(x), want, []api.Post{to(3, voted(4, true))})
	lasts(t, "given", x, takes(t, "given", m), votes(x, 4, 3)...)
	becomes(t, "given again", takes(t, "given again", m)(want), want, []api.Post{to(3, voted(4, true))})
	lasts(t, "given again", want, takes(t, "given again", m))
	later := raft(x, func(r *api.Raft) { r.Term, r.Vote, r.Leader, r.Wait = 6, 3, 0, 13 })
	becomes(t, "a later Term", takes(t, "a later Term", ask(6, 7, 4))(x), later, []api.Post{to(3, voted(6, true))})
	lasts(t, "a later Term", x, takes(t, "a later Term", ask(6, 7, 4)), votes(x, 6, 3)...)
	refuses := raft(x, func(r *api.Raft) { r.Term, r.Leader = 6, 0 })
	becomes(t, "refused", takes(t, "refused", ask(6, 6, 4))(x), refuses, []api.Post{to(3, voted(6, false))})
	lasts(t, "refused", x, takes(t, "refused", ask(6, 6, 4)), votes(x, 6, 0)...)
	becomes(t, "an elder Term", takes(t, "an elder Term", ask(3, 7, 4))(x), x, []api.Post{to(3, voted(4, false))})
	lasts(t, "an elder Term", x, takes(t, "an elder Term", ask(3, 7, 4)))
}

// 17.3: entries behind the end last ahead of being answered; what is settled is done, and what is there already is not kept again.
func TestTakeAppend(t *testing.T) {
	x := following() // 3 to 7 of Terms 1, 2, 2, 4, 4; Commit 5
	l := x.Raft.Log.Entries
	last := "w/0000000000000007"
	more := []api.Entry{task(8, 4), lead(9, 4), members(10, 4, 1, 2), task(11, 4)}
	for n := range 5 {
		for commit := uint64(5); commit <= 12; commit++ {
			index := uint64(7 + n)
			settled := min(commit, index)
			want := raft(x, func(r *api.Raft) {
				heeds(r)
				r.Log.Entries, r.Commit = append(r.Log.Entries, more[:n]...), settled
			})
			want = undone(want, settled)
			m := appends(4, 7, 4, commit, more[:n]...)
			what := strconv.Itoa(n) + " entries"
			becomes(t, what, takes(t, what, m)(x), want, []api.Post{to(3, appended(4, true, index))})
			list := [][]disktest.Call{nil, puts(last, more[:1]...), puts(last, more[:2]...), puts(last, more[:3]...), append(puts(last, more[:3]...), puts("w/000000000000000b", more[3])...)}
			lasts(t, what, x, takes(t, what, m), list[n]...)
		}
	}
	m := appends(4, 2, 1, 5, append(slices.Clone(l), more[0])...)
	lasts(t, "some that are there", x, takes(t, "some that are there", m), puts(last, more[0])...)
	lasts(t, "all that are there", x, takes(t, "all that are there", appends(4, 2, 1, 7, l...)))
	lasts(t, "a gap", x, takes(t, "a gap", appends(4, 9, 4, 7)))
	m.Term = 5
	lasts(t, "a later Term", x, takes(t, "a later Term", m), slices.Concat(votes(x, 5, 0), puts(last, more[0]))...)
}

// 17.3: a log that has other entries is cut from the first one of them on, then it is appended to.
func TestTakeAppendCuts(t *testing.T) {
	x := following()
	one, two := task(6, 3), task(7, 3)
	first, last := "w/0000000000000003", "w/0000000000000007"
	size := len(frames(x.Raft.Log.Entries[:3]...))
	becomes(t, "cut", takes(t, "cut", appends(4, 5, 2, 5, one))(x), raft(x, func(r *api.Raft) {
		heeds(r)
		r.Log.Entries = append(r.Log.Entries[:3], one)
	}), []api.Post{to(3, appended(4, true, 6))})
	back := []disktest.Call{drops(last), cuts(first, size), syncs(first)}
	lasts(t, "cut", x, takes(t, "cut", appends(4, 5, 2, 5, one)), append(back, puts(first, one)...)...)
	lasts(t, "by two", x, takes(t, "by two", appends(4, 5, 2, 5, one, two)), slices.Concat(back, []disktest.Call{adds(first, frames(one)), syncs(first)}, puts(last, two))...)
	lasts(t, "the last one", x, takes(t, "the last one", appends(5, 6, 4, 5, task(7, 5))), slices.Concat(votes(x, 5, 0), []disktest.Call{drops(last)}, []disktest.Call{syncs(first)}, puts(last, task(7, 5)))...)
	long := takes(t, "longer", appends(4, 7, 4, 5, task(8, 4), task(9, 4)))(x).X
	size = len(frames(long.Raft.Log.Entries[4:5]...))
	lasts(t, "within a segment", long, takes(t, "within a segment", appends(5, 7, 4, 5, task(8, 5))), slices.Concat(votes(long, 5, 0), []disktest.Call{cuts(last, size), syncs(last)}, puts(last, task(8, 5)))...)
}

// given installs: the state is the snapshot's, and what is behind it is done again as it is settled.
func TestTakeInstall(t *testing.T) {
	ledger := ledgertest.Full()
	s := api.Snap{Index: 20, Term: 4, Members: []int{1, 3}, Data: packed(ledger)}
	first, last := "w/0000000000000003", "w/0000000000000007"
	for role, x := range map[string]api.Replica{"follows": following(), "stands": standing(), "with Waits": waiting(following(), 4, 6, 7)} {
		want := raft(x, func(r *api.Raft) {
			heeds(r)
			r.Log, r.Snap, r.Commit = api.Log{Base: 20, BaseTerm: 4}, s, 20
		})
		want.Ledger, want.Done, want.Waits = ledger, 20, nil
		becomes(t, role, takes(t, role, install(4, s))(x), want, []api.Post{to(3, appended(4, true, 20))})
		lasts(t, role, x, takes(t, role, install(4, s)), append(snaps(x, s), drops(last), drops(first))...)
		lasts(t, role+", a later Term", x, takes(t, role, install(5, s)), slices.Concat(votes(x, 5, 0), snaps(x, s), []disktest.Call{drops(last), drops(first)})...)
	}
	none := fresh(2, 1, 2)
	want := raft(none, func(r *api.Raft) {
		heeds(r)
		r.Term, r.Log, r.Snap, r.Commit = 4, api.Log{Base: 20, BaseTerm: 4}, s, 20
	})
	want.Ledger, want.Done = ledger, 20
	becomes(t, "of nothing", takes(t, "of nothing", install(4, s))(none), want, []api.Post{to(3, appended(4, true, 20))})
	lasts(t, "of nothing", none, takes(t, "of nothing", install(4, s)), append(votes(none, 4, 0), snaps(none, s)...)...)
}

// 17.3: a snapshot that came over a log: of an entry that it has what is behind stays, of one that it has otherwise nothing does.
func TestTakeInstallOverLog(t *testing.T) {
	x := waiting(long(4, 4), 3, 15, 18, 19, 22, 30) // 11 to 30 of Term 3
	segments := []string{"w/000000000000000b", "w/000000000000000f", "w/0000000000000013", "w/0000000000000017", "w/000000000000001b"}
	for upto := uint64(15); upto <= 32; upto++ {
		for term := uint64(2); term <= 4; term++ {
			ledger := cluster(int(upto))
			s := api.Snap{Index: upto, Term: term, Members: []int{1, 3}, Data: packed(ledger)}
			list := snaps(x, s)
			has := upto <= 30 && term == 3
			for i, name := range segments {
				if has && i < 4 && 14+4*uint64(i) <= upto {
					list = append(list, drops(name)) // trimmed, from its beginning on
				} else if !has {
					list = slices.Insert(list, 3, drops(name)) // cut, from its end on back
				}
			}
			want := raft(x, func(r *api.Raft) {
				heeds(r)
				r.Snap, r.Commit = s, upto
				r.Log = api.Log{Base: upto, BaseTerm: term, Entries: r.Log.Entries[min(upto-10, 20):]}
				if !has {
					r.Log.Entries = nil
				}
			})
			want.Ledger, want.Done = ledger, upto
			want.Waits = slices.DeleteFunc(slices.Clone(want.Waits), func(w api.Wait) bool { return w.Index <= upto || !has })
			what := "up to " + strconv.FormatUint(upto, 10) + ", Term " + strconv.FormatUint(term, 10)
			becomes(t, what, takes(t, what, install(4, s))(x), want, []api.Post{to(3, appended(4, true, upto))})
			lasts(t, what, x, takes(t, what, install(4, s)), list...)
		}
	}
}

// 17.3: a snapshot of what is settled already changes nothing but what heeding its leader does.
func TestTakeInstallSettled(t *testing.T) {
	for upto := uint64(1); upto <= 5; upto++ {
		for done := uint64(2); done <= 5; done++ {
			x := undone(following(), done)
			want := raft(undone(x, 5), heeds)
			m := install(4, api.Snap{Index: upto, Term: 4, Members: []int{1}, Data: packed(ledgertest.Full())})
			becomes(t, "settled", takes(t, "settled", m)(x), want, []api.Post{to(3, appended(4, true, upto))})
			lasts(t, "settled", x, takes(t, "settled", m))
		}
	}
}

// 17.3: behind a snapshot a log is gone on with, in a segment of its own.
func TestTakeInstallThenAppend(t *testing.T) {
	s := state(20, 4)
	x := takes(t, "installed", install(4, s))(following()).X
	m := appends(4, 20, 4, 21, task(21, 4), task(22, 4))
	lasts(t, "more", x, takes(t, "more", m), puts("w/0000000000000015", m.Entries...)...)
	got := takes(t, "more", m)(x).X
	if want := replicatest.Folded(replicatest.State(), task(21, 4)); got.Done != 21 || !ledgertest.Same(got.Ledger, want) {
		t.Errorf("more: %s", brief(got))
	}
	again := start(t, "again", 2, []int{1, 2}, got.Disk, 0).X
	if !logtest.SameLog(again.Raft.Log, got.Raft.Log) || again.Done != 20 || !ledgertest.Same(again.Ledger, replicatest.State()) {
		t.Errorf("again: %s", brief(again))
	}
}

// answers are those to Waits of these Indexes, that waiting has.
func answers(told api.Told, indexes ...uint64) []api.Answer {
	var l []api.Answer
	for _, index := range indexes {
		l = append(l, api.Answer{Client: index, Seq: index + 100, Told: told})
	}
	return l
}

// 17.3: what is settled is answered to those who wait for it, if it is of the Term in which they called; to others it is not, and they wait no more.
func TestTakeAnswers(t *testing.T) {
	x := replicatest.Of(coretest.With(coretest.Leading(), func(r *api.Raft) {
		r.Log.Entries[3], r.Log.Entries[4] = logtest.Order(6, 4, ""), logtest.Order(7, 4, "") // one more is on its way
		r.Peers = []api.Peer{{Id: 1, Next: 8, Match: 5}, {Id: 3, Next: 8, Match: 5}}
	}))
	for what, one := range map[string]struct {
		x       api.Replica
		upto    uint64
		waits   int // how many go on
		answers []api.Answer
	}{
		"nobody waits":      {x, 7, 0, nil},
		"all":               {waiting(x, 4, 6, 7), 7, 0, answers(api.Told{}, 6, 7)},
		"the first one":     {waiting(x, 4, 6, 7), 6, 1, answers(api.Told{}, 6)},
		"the last one":      {waiting(x, 4, 7), 7, 0, answers(api.Told{}, 7)},
		"none":              {waiting(x, 4, 7), 6, 1, nil},
		"another Term":      {waiting(x, 3, 6, 7), 7, 0, nil},
		"a later Term":      {waiting(x, 5, 6), 6, 0, nil},
		"one of both":       {waiting(waiting(x, 3, 6), 4, 7), 7, 0, answers(api.Told{}, 7)},
		"the other of both": {waiting(waiting(x, 4, 6), 3, 7), 7, 0, answers(api.Told{}, 6)},
		"not done ahead":    {waiting(undone(x, 3), 2, 4, 5), 6, 0, answers(api.Told{}, 4, 5)},
	} {
		want := undone(raft(one.x, func(r *api.Raft) {
			r.Commit, r.Peers[1].Match = one.upto, one.upto
			r.Peers[1].Next = max(8, one.upto+1)
		}), one.upto)
		want.Waits = one.x.Waits[len(one.x.Waits)-one.waits:]
		becomes(t, what, takes(t, what, appended(4, true, one.upto))(one.x), want, nil, one.answers...)
		lasts(t, what, one.x, takes(t, what, appended(4, true, one.upto)))
	}
}

// 17.3: what is told is what the ledger tells, nothing of an entry that is no order; whether it leads is no matter.
func TestTakeAnswersTold(t *testing.T) {
	x := following()
	look := replicatest.Order(9, 4, 9, 8, api.Order{Kind: api.OrderLook, Name: "a"})
	l := []api.Entry{task(8, 4), look, replicatest.Order(10, 4, 9, 3, api.Order{Kind: api.OrderLook, Name: "a"}), replicatest.Order(11, 4, 9, 9, api.Order{Kind: api.OrderDone, Name: "none"}), logtest.Order(12, 4, "no command's"), lead(13, 4), members(14, 4, 1, 2, 3), replicatest.Order(15, 4, 5, 9, api.Order{Kind: api.OrderLook, Name: "a"})}
	x = waiting(takes(t, "told", appends(4, 7, 4, 7, l...))(x).X, 4, 8, 9, 10, 11, 12, 13, 14, 15)
	tolds := []api.Told{{}, {}, {Why: api.ErrStale}, {Why: api.ErrNone}, {Why: api.ErrForm}, {}, {}, {Text: "n"}} // 9 is the command of 8, told again
	var want []api.Answer
	for i, told := range tolds {
		want = append(want, answers(told, 8+uint64(i))...)
	}
	got := takes(t, "told", appends(4, 15, 4, 15))(x)
	if !slices.Equal(got.Answers, want) || len(got.X.Waits) != 0 || got.X.Done != 15 {
		t.Errorf("told: %s, %s", replicatest.BriefAnswers(got.Answers), brief(got.X))
	}
}

// 17.3: Waits of entries that another one took the place of go on till that is done, those above the end are no more at once.
func TestTakeWaits(t *testing.T) {
	x := waiting(following(), 4, 6, 7)
	got := takes(t, "cut", appends(5, 5, 2, 5, task(6, 5)))(x) // 7 is none any more
	if !slices.Equal(got.X.Waits, x.Waits[:1]) || len(got.Answers) != 0 {
		t.Errorf("cut: %s, %s", replicatest.BriefAnswers(got.Answers), brief(got.X))
	}
	got = takes(t, "settled", appends(5, 6, 5, 6))(got.X)
	if len(got.X.Waits) != 0 || len(got.Answers) != 0 || got.X.Done != 6 {
		t.Errorf("settled: %s, %s", replicatest.BriefAnswers(got.Answers), brief(got.X))
	}
	got = takes(t, "both", appends(5, 5, 2, 6, task(6, 5)))(x)
	if len(got.X.Waits) != 0 || len(got.Answers) != 0 {
		t.Errorf("both: %s, %s", replicatest.BriefAnswers(got.Answers), brief(got.X))
	}
	got = takes(t, "as many", appends(5, 5, 2, 5, task(6, 5), task(7, 5)))(x)
	if !slices.Equal(got.X.Waits, x.Waits) {
		t.Errorf("as many: %s", brief(got.X))
	}
	got = takes(t, "up to another one", appends(5, 7, 5, 6))(got.X)
	if !slices.Equal(got.X.Waits, x.Waits[1:]) || len(got.Answers) != 0 {
		t.Errorf("up to another one: %s, %s", replicatest.BriefAnswers(got.Answers), brief(got.X))
	}
	got = takes(t, "of the same Term", appends(5, 5, 2, 7, x.Raft.Log.Entries[3:]...))(x) // whoever leads
	if len(got.X.Waits) != 0 || !slices.Equal(got.Answers, answers(api.Told{}, 6, 7)) {
		t.Errorf("of the same Term: %s, %s", replicatest.BriefAnswers(got.Answers), brief(got.X))
	}
}

// 17.3: what changes nothing that must last is sent, whatever the fuse, and the power that is left goes for nothing.
func TestTakeNothingKept(t *testing.T) {
	for what, one := range map[string]struct {
		x api.Replica
		m api.Msg
	}{
		"appended":           {leading(), appended(4, false, 4)},
		"voted":              {standing(), voted(4, false)},
		"an elder append":    {following(), appends(3, 7, 4, 7)},
		"a heartbeat":        {following(), appends(4, 7, 4, 7)},
		"an elder voted":     {following(), voted(1, true)},
		"an elder install":   {following(), install(3, state(9, 3))},
		"an ask, not given":  {following(), ask(4, 6, 4)},
		"an append to a gap": {following(), appends(4, 7, 3, 7)},
	} {
		lasts(t, what, one.x, takes(t, what, one.m))
		holds(t, what, takes(t, what, one.m)(one.x), modelTake(one.x, 3, packet(one.m), 3))
	}
}

// 17.3: one that has enough votes leads: its Term lasts already, its first entry does ahead of being sent.
func TestTakeLeads(t *testing.T) {
	x := standing()
	x.Raft.Votes = []int{2, 5}
	e := lead(8, 4)
	want := raft(x, func(r *api.Raft) {
		r.Role, r.Leader, r.Votes = api.RoleLead, 2, nil
		r.Log.Entries = append(r.Log.Entries, e)
		r.Peers = []api.Peer{{Id: 1, Next: 8}, {Id: 3, Next: 8}, {Id: 5, Next: 8}}
	})
	m := appends(4, 7, 4, 5, e)
	becomes(t, "leads", takes(t, "leads", voted(4, true))(x), want, []api.Post{to(1, m), to(3, m), to(5, m)})
	lasts(t, "leads", x, takes(t, "leads", voted(4, true)), puts("w/0000000000000007", e)...)
}

// messages are some of each kind that each replica takes for something.
func messages(x api.Replica) []api.Msg {
	r := x.Raft
	last := entryAt(r.Log, endOf(r.Log))
	if last.Index == 0 {
		last.Index, last.Term = r.Log.Base, r.Log.BaseTerm
	}
	var list []api.Msg
	for _, term := range []uint64{max(r.Term, 1), r.Term + 1} {
		list = append(list, ask(term, last.Index, last.Term), voted(term, true), appended(term, true, last.Index), appended(term, false, r.Commit))
		for _, index := range []uint64{r.Log.Base, r.Commit, last.Index} {
			at := entryAt(r.Log, index).Term
			if index == r.Log.Base {
				at = r.Log.BaseTerm
			}
			list = append(list, appends(term, index, at, most), appends(term, index, at, last.Index, task(index+1, term)), appends(term, index, at, last.Index+1, task(index+1, term), lead(index+2, term)))
			list = append(list, install(term, api.Snap{Index: index + 1, Term: entryAt(r.Log, index+1).Term, Members: []int{1, 2}, Data: packed(replicatest.State())}))
		}
		list = append(list, install(term, api.Snap{Index: r.Commit + 2, Term: term, Members: []int{1, 2}, Data: packed(ledgertest.Full())}))
	}
	return list
}

// 17.3: all replicas at all edges, and messages of all kinds, held against the model.
func TestTakeOfAll(t *testing.T) {
	t.Parallel()
	kept := map[int]int{}
	for what, x := range replicatest.Rights() {
		for _, m := range messages(x) {
			from := 1 + x.Id%7
			data := packet(m)
			got := take(t, what, x, from, data, 9)
			holds(t, what+": "+logtest.BriefMsg(m), got, modelTake(x, from, data, 9))
			if got.Why == api.OK {
				kept[len(keep(x.Raft, got.X.Raft))]++
			}
		}
	}
	for n := range 4 {
		if kept[n] < 100 {
			t.Errorf("%d changes are kept only %d times", n, kept[n])
		}
	}
}

// 17.3: a snapshot that is wrong in a message is no packet's at all.
func TestTakeWrongSnaps(t *testing.T) {
	for _, s := range logtest.RightSnaps() {
		if s.Index == 0 || s.Index > 1<<40 {
			continue
		}
		data, _ := snap.Encode(s)
		m := framed(pack.Number(5) + pack.Number(4) + pack.Text(data))
		stays(t, "no state", take(t, "no state", following(), 3, m, 0), following(), api.ErrForm)
	}
}
