package replica_test

import (
	"slices"
	"testing"

	"gaffer/api"
	"gaffer/booktest"
	"gaffer/coretest"
	"gaffer/disktest"
	"gaffer/logtest"
	"gaffer/ordertest"
	"gaffer/replicatest"
)

func calls(t *testing.T, what string, c api.Command) func(x api.Replica) stepped {
	return func(x api.Replica) stepped { return call(t, what, x, c) }
}

func changes(t *testing.T, what string, list ...int) func(x api.Replica) stepped {
	return func(x api.Replica) stepped { return change(t, what, x, list...) }
}

func look(client, seq uint64, name string) api.Command {
	return api.Command{Client: client, Seq: seq, Order: ordertest.Named(api.OrderLook, name)}
}

// full is a replica that leads, with as many entries as it lets be there; all is settled.
func full() api.Replica {
	return replicatest.Of(coretest.With(coretest.Leading(), func(r *api.Raft) {
		r.Log = logtest.Row(2, 1, slices.Repeat([]uint64{4}, api.MaxOpen)...)
		r.Commit, r.Peers = r.Log.Base+api.MaxOpen, nil
	}))
}

// 17.3: a command that is not right, or of Client 0, is refused ahead of all that core refuses; the replica stays as it was.
func TestCallErrors(t *testing.T) {
	t.Parallel()
	for what, one := range map[string]struct {
		x    api.Replica
		want api.Errno
	}{
		"follows":                  {waiting(following(), 4, 6, 7), api.ErrLeader},
		"stands":                   {standing(), api.ErrLeader},
		"follows, and is full":     {with(full(), func(x *api.Replica) { x.Raft.Role = api.RoleFollow }), api.ErrLeader},
		"full":                     {full(), api.ErrFull},
		"at the last end":          {replicatest.Of(coretest.Ended(coretest.Leading(), api.MaxNumber)), api.ErrFull},
		"leads":                    {leading(), api.OK},
		"all but the last end":     {replicatest.Of(coretest.Ended(coretest.Leading(), api.MaxNumber-1)), api.OK},
		"leads, of a log of other": {raft(leading(), func(r *api.Raft) { r.Term = 9 }), api.OK},
	} {
		if one.want != api.OK {
			stays(t, what, call(t, what, one.x, look(1, 1, "a")), one.x, one.want)
		} else if got := call(t, what, one.x, look(1, 1, "a")); got.Why != api.OK {
			t.Errorf("%s: error %d", what, got.Why)
		}
		for _, c := range append(ordertest.WrongCommands(), ordertest.Overfull()...) {
			stays(t, what, call(t, what, one.x, c), one.x, api.ErrForm)
		}
		for _, o := range ordertest.Orders() {
			stays(t, what+", of nobody", call(t, what, one.x, api.Command{Order: o}), one.x, api.ErrForm)
		}
	}
}

// 17.3: a command is an order of the log, lasts, is sent, and waited for; what is called behind it is, too.
func TestCall(t *testing.T) {
	x := waiting(leading(), 4, 6)
	l := x.Raft.Log.Entries
	for _, c := range ordertest.Commands() {
		if c.Client == 0 {
			continue
		}
		e := replicatest.Order(8, 4, c.Client, c.Seq, c.Order)
		want := raft(x, func(r *api.Raft) { r.Log.Entries = append(r.Log.Entries, e) })
		want.Waits = []api.Wait{x.Waits[0], {Index: 8, Term: 4, Client: c.Client, Seq: c.Seq}}
		becomes(t, "called", calls(t, "called", c)(x), want, []api.Post{to(1, appends(4, 7, 4, 5, e)), to(3, appends(4, 5, 2, 5, l[3], l[4], e)), to(5, install(4, x.Raft.Snap))})
	}
	e := replicatest.Order(8, 4, 7, 1, look(7, 1, "a").Order)
	lasts(t, "called", x, calls(t, "called", look(7, 1, "a")), puts("w/0000000000000007", e)...)
	then := call(t, "then", call(t, "called", x, look(7, 1, "a")).X, look(5, 3, "b")).X
	if want := []api.Wait{x.Waits[0], {Index: 8, Term: 4, Client: 7, Seq: 1}, {Index: 9, Term: 4, Client: 5, Seq: 3}}; !slices.Equal(then.Waits, want) {
		t.Errorf("then: %s", brief(then))
	}
	later := raft(x, func(r *api.Raft) { r.Term = 6 })
	if got := call(t, "a later Term", later, look(7, 1, "a")).X.Waits; len(got) != 2 || got[1].Term != 6 {
		t.Errorf("a later Term: %v", got)
	}
	undone := undone(leading(), 3) // what is settled is done meanwhile
	if got := call(t, "undone", undone, look(7, 1, "a")); got.X.Done != 5 || len(got.X.Waits) != 1 {
		t.Errorf("undone: %s", brief(got.X))
	}
}

// 17.3 and the first example: one that is alone answers at once, when it lasts.
func TestCallAlone(t *testing.T) {
	x := fresh(1, 1)
	for range 10 {
		x = tick(t, "alone", x, 0).X
	}
	if x.Raft.Role != api.RoleLead || x.Done != 1 {
		t.Errorf("alone: %s", brief(x))
	}
	for i, one := range []struct {
		o    api.Order
		told api.Told
	}{
		{ordertest.Named(api.OrderLook, "t-1"), api.Told{Why: api.ErrNone}},
		{api.Order{Kind: api.OrderTask, Task: booktest.SomeTask()}, api.Told{}},
		{api.Order{Kind: api.OrderTask, Task: booktest.SomeTask()}, api.Told{Why: api.ErrTwice}},
		{api.Order{Kind: api.OrderNode, Node: booktest.SomeNode()}, api.Told{}},
		{api.Order{Kind: api.OrderBind, Name: "t-1", On: "n-1", Fence: 1}, api.Told{}},
		{ordertest.Named(api.OrderLook, "t-1"), api.Told{Text: "n-1"}},
	} {
		c := api.Command{Client: 3, Seq: uint64(i), Order: one.o}
		e := replicatest.Order(uint64(i)+2, 1, 3, uint64(i), one.o)
		want := raft(x, func(r *api.Raft) { r.Log.Entries, r.Commit = append(r.Log.Entries, e), e.Index })
		want.Ledger, want.Done = replicatest.Folded(x.Ledger, e), e.Index
		got := call(t, "alone", x, c)
		becomes(t, "alone", got, want, nil, api.Answer{Client: 3, Seq: uint64(i), Told: one.told})
		name := "w/0000000000000001"
		var list []disktest.Call
		if e.Index > 4 {
			name = "w/0000000000000005"
		}
		if e.Index == 5 {
			list = append(list, syncs("w/0000000000000001"))
		}
		lasts(t, "alone", x, calls(t, "alone", c), append(list, puts(name, e)...)...)
		again := call(t, "again", got.X, c)
		if len(again.Answers) != 1 || again.Answers[0].Told != one.told {
			t.Errorf("again: %s", replicatest.BriefAnswers(again.Answers))
		}
		x = got.X
	}
}

// 17.3: a change of members in each of core's errors; the replica stays as it was.
func TestChangeErrors(t *testing.T) {
	open := replicatest.Of(coretest.With(coretest.Leading(), func(r *api.Raft) { // a change is not settled, but the Term at Commit is its own
		r.Log.Entries[1].Term, r.Log.Entries[2].Term = 4, 4
	}))
	for what, one := range map[string]struct {
		x    api.Replica
		list []int
		want api.Errno
	}{
		"follows":                    {waiting(following(), 4, 6, 7), []int{1, 2, 3}, api.ErrLeader},
		"stands":                     {standing(), []int{1, 2, 3}, api.ErrLeader},
		"follows, no members":        {following(), nil, api.ErrLeader},
		"follows, without itself":    {following(), []int{1, 3, 5}, api.ErrLeader},
		"no members":                 {waiting(settled(), 4), nil, api.ErrForm},
		"wrong members":              {settled(), []int{2, 1}, api.ErrForm},
		"too great a one":            {settled(), []int{1, 2, 8}, api.ErrForm},
		"no members, and full":       {full(), []int{}, api.ErrForm},
		"no members, and open":       {open, []int{0}, api.ErrForm},
		"full":                       {full(), []int{1, 2, 3}, api.ErrFull},
		"full, the same":             {full(), []int{1, 2, 7}, api.ErrFull},
		"at the last end":            {replicatest.Of(coretest.Ended(coretest.Leading(), api.MaxNumber)), []int{1, 2}, api.ErrFull},
		"an elder Term":              {raft(settled(), func(r *api.Raft) { r.Term = 5 }), []int{1, 2, 3}, api.ErrState},
		"an elder Term, the same":    {raft(settled(), func(r *api.Raft) { r.Term = 5 }), []int{1, 2, 3, 5}, api.ErrState},
		"a change is open":           {open, []int{1, 2, 3}, api.ErrState},
		"open, and without itself":   {open, []int{1, 3, 5}, api.ErrState},
		"the same":                   {settled(), []int{1, 2, 3, 5}, api.ErrRange},
		"two more":                   {settled(), []int{1, 2, 3, 4, 5, 6}, api.ErrRange},
		"two fewer":                  {settled(), []int{1, 2}, api.ErrRange},
		"one for another":            {settled(), []int{1, 2, 3, 4}, api.ErrRange},
		"itself for another":         {settled(), []int{1, 3, 4, 5}, api.ErrRange},
		"without itself":             {settled(), []int{1, 3, 5}, api.ErrBusy},
		"one that is alone, nothing": {alone(), []int{}, api.ErrForm},
		"one that is alone, another": {alone(), []int{2}, api.ErrRange},
	} {
		stays(t, what, change(t, what, one.x, one.list...), one.x, one.want)
	}
	for _, list := range logtest.WrongMembers() {
		stays(t, "wrong members", change(t, "wrong members", settled(), list...), settled(), api.ErrForm)
	}
}

// 17.3: a change of members is an entry, lasts, and is sent to those that are members then; nobody waits for it.
func TestChange(t *testing.T) {
	x := settled()
	l := x.Raft.Log.Entries
	e := members(8, 4, 1, 2, 3, 4, 5)
	want := raft(x, func(r *api.Raft) {
		r.Log.Entries, r.Peers = append(r.Log.Entries, e), slices.Insert(r.Peers, 2, api.Peer{Id: 4, Next: 8})
	})
	becomes(t, "one more", change(t, "one more", x, 1, 2, 3, 4, 5), want, []api.Post{to(1, appends(4, 7, 4, 7, e)), to(3, appends(4, 5, 2, 7, l[3], l[4], e)), to(4, appends(4, 7, 4, 7, e)), to(5, install(4, x.Raft.Snap))})
	lasts(t, "one more", x, changes(t, "one more", 1, 2, 3, 4, 5), puts("w/0000000000000007", e)...)
	e = members(8, 4, 1, 2, 5)
	want = raft(x, func(r *api.Raft) {
		r.Log.Entries, r.Peers = append(r.Log.Entries, e), slices.Delete(r.Peers, 1, 2)
	})
	becomes(t, "one fewer", change(t, "one fewer", x, 1, 2, 5), want, []api.Post{to(1, appends(4, 7, 4, 7, e)), to(5, install(4, x.Raft.Snap))})
	lasts(t, "one fewer", x, changes(t, "one fewer", 1, 2, 5), puts("w/0000000000000007", e)...)
}

// 17.3: what is settled by a change is done, and answered, in the same step.
func TestChangeSettles(t *testing.T) {
	x := waiting(replicatest.Of(coretest.With(coretest.Fresh(1, 1, 2), func(r *api.Raft) {
		r.Term, r.Vote, r.Role, r.Leader, r.Commit = 1, 1, api.RoleLead, 1, 1
		r.Log.Entries = []api.Entry{lead(1, 1), logtest.Order(2, 1, "")}
		r.Peers = []api.Peer{{Id: 2, Next: 3, Match: 1}}
	})), 1, 2)
	e := members(3, 1, 1)
	want := raft(x, func(r *api.Raft) { r.Log.Entries, r.Peers, r.Commit = append(r.Log.Entries, e), nil, 3 })
	want.Ledger, want.Done, want.Waits = replicatest.Folded(x.Ledger, want.Raft.Log.Entries[1:]...), 3, nil
	becomes(t, "alone", change(t, "alone", x, 1), want, nil, answers(api.Told{}, 2)...)
}

// 17.3: all replicas at all edges, held against the model.
func TestCallOfAll(t *testing.T) {
	t.Parallel()
	told := map[api.Errno]int{}
	for what, x := range replicatest.Rights() {
		for _, c := range []api.Command{look(7, 1, "a"), look(7, 0, "task-8"), {Client: most, Seq: most, Order: api.Order{Kind: api.OrderNode, Node: booktest.SomeNode()}}, {}} {
			got := call(t, what, x, c)
			holds(t, what, got, modelCall(x, c))
			told[got.Why]++
		}
		for _, list := range [][]int{{1, 2}, {1, 2, 3}, {1, 2, 3, 5}, {1, 2, 5}, {1, 2, 3, 4, 5}, {1, 3, 5}, {2}, nil} {
			got := change(t, what, x, list...)
			holds(t, what, got, modelChange(x, list...))
			told[got.Why]++
		}
	}
	for _, why := range []api.Errno{api.OK, api.ErrForm, api.ErrLeader, api.ErrFull, api.ErrState, api.ErrRange, api.ErrBusy, api.ErrPower} {
		if told[why] < 2 {
			t.Errorf("error %d is told %d times", why, told[why])
		}
	}
}
