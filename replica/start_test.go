package replica_test

import (
	"slices"
	"testing"

	"gaffer/api"
	"gaffer/coretest"
	"gaffer/disk"
	"gaffer/disktest"
	"gaffer/hard"
	"gaffer/ledgertest"
	"gaffer/logtest"
	"gaffer/pack"
	"gaffer/replica"
	"gaffer/replicatest"
	"gaffer/snap"
	"gaffer/wal"
)

// row are so many entries from an Index on, of a Term, each an order for a task.
func row(from, term uint64, n int) []api.Entry {
	var l []api.Entry
	for i := range n {
		l = append(l, task(from+uint64(i), term))
	}
	return l
}

// holding is a disk with these things, as far as they are not zero; Term 4, Vote 3.
func holding(s api.Snap, l ...api.Entry) api.Disk {
	d, _ := hard.Save(disktest.Of(), api.Hard{Term: 4, Vote: 3})
	if !logtest.SameSnap(s, api.Snap{}) {
		d, _ = snap.Save(d, s)
	}
	d, _ = wal.Append(d, l)
	return d
}

// without is d without a file's last bytes, all that is left being synced.
func without(d api.Disk, name string, size int) api.Disk {
	d = disktest.Clone(d)
	for i, f := range d.Files {
		if f.Name == name {
			d.Files[i] = disktest.File(name, f.Data[:len(f.Data)-size])
		}
	}
	return d
}

// state is a snapshot of State.
func state(index, term uint64) api.Snap {
	return api.Snap{Index: index, Term: term, Members: []int{1, 2}, Data: packed(replicatest.State())}
}

// started is what Start tells of a disk that holds those things; what is done is in the snapshot.
func started(d api.Disk, s api.Snap, l api.Ledger, entries ...api.Entry) api.Replica {
	r := coretest.Fresh(2, 1, 2)
	r.Term, r.Vote, r.Snap, r.Commit, r.Wait = 4, 3, s, s.Index, 15
	r.Log = api.Log{Base: s.Index, BaseTerm: s.Term, Entries: entries}
	return api.Replica{Id: 2, Disk: d, Raft: r, Ledger: l, Done: s.Index}
}

// starts holds what Start makes of d, with Id 2, First 1 and 2, and draw 5; its changes of the disk are to be those of list.
func starts(t *testing.T, what string, d api.Disk, want api.Replica, list ...disktest.Call) {
	t.Helper()
	left, why := disktest.Row(d, list...)
	if why != api.OK {
		t.Fatalf("%s: error %d", what, why)
	}
	want.Disk = left
	holds(t, what, start(t, what, 2, []int{1, 2}, d, 5), stepped{X: want})
	lasts(t, what, api.Replica{Id: 2, Disk: d}, func(x api.Replica) stepped { return start(t, what, 2, []int{1, 2}, x.Disk, 5) }, list...)
}

// 17.1: Start of a disk with no files: all is of nothing, whatever the draw is.
func TestStartOfNothing(t *testing.T) {
	for id := 1; id <= api.MaxReplicas; id++ {
		for _, first := range [][]int{{1}, {7}, {1, 2, 3}, {1, 2, 3, 4, 5, 6, 7}} {
			for draw, wait := range map[int]int{0: 10, 1: 11, 63: 73, 64: 10, 1<<40 + 7: 17} {
				want := fresh(id, first...)
				want.Raft.Wait = wait
				holds(t, "of nothing", start(t, "of nothing", id, first, disktest.Of(), draw), stepped{X: want})
			}
		}
	}
	other := disktest.Of(disktest.Beside("hard")[:4]...) // another one's files stay as they are
	want := fresh(3, 1)
	want.Disk = other
	holds(t, "other files", start(t, "other files", 3, []int{1}, other, 0), stepped{X: want})
	lasts(t, "other files", api.Replica{Id: 3, Disk: other}, func(x api.Replica) stepped { return start(t, "other files", 3, []int{1}, x.Disk, 0) })
}

// 17.1: Start of a log, and of what must not be forgotten, without a snapshot: nothing is done.
func TestStartOfLog(t *testing.T) {
	for n := 1; n <= 9; n++ {
		l := row(1, 3, n)
		d := holding(api.Snap{}, l...)
		last := d.Files[len(d.Files)-1].Name
		starts(t, "a log", d, started(d, api.Snap{}, api.Ledger{}, l...), syncs(last))
	}
	l := logtest.Row(0, 0, 0, 1, 1, 3, 4).Entries
	d := holding(api.Snap{}, l...)
	starts(t, "of all kinds", d, started(d, api.Snap{}, api.Ledger{}, l...), syncs("w/0000000000000005"))
	d = holding(api.Snap{})
	starts(t, "no log", d, started(d, api.Snap{}, api.Ledger{}))
	d = disktest.Without(holding(api.Snap{}, row(1, 0, 2)...), "hard")
	want := started(d, api.Snap{}, api.Ledger{}, row(1, 0, 2)...)
	want.Raft.Term, want.Raft.Vote = 0, 0
	starts(t, "no Term", d, want, syncs("w/0000000000000001"))
}

// 17.1: Start of a snapshot: its ledger, and what is behind it in the log.
func TestStartOfSnap(t *testing.T) {
	l := row(1, 2, 9)
	for upto := uint64(1); upto <= 9; upto++ {
		for from := range upto + 1 { // the first ones of the log may be up to it, or none
			s := state(upto, 2)
			d := holding(s, l[from:]...)
			list := []disktest.Call{}
			if from < 9 {
				list = append(list, syncs(d.Files[len(d.Files)-1].Name))
			}
			starts(t, "up to the snapshot, or from there on", d, started(d, s, replicatest.State(), l[upto:]...), list...)
		}
	}
	for what, ledger := range map[string]api.Ledger{"nothing": {}, "some": ledgertest.Some(), "widest": ledgertest.Widest()} {
		s := api.Snap{Index: 3, Term: 1, Members: []int{4, 7}, Data: packed(ledger)}
		d := holding(s, row(4, 1, 2)...)
		starts(t, what, d, started(d, s, ledger, row(4, 1, 2)...), syncs("w/0000000000000004"))
	}
}

// 17.1: a snapshot at Index 0 has the state of nothing, if its Data is empty, whoever the Members are; else the Data's.
func TestStartOfSnapAtNothing(t *testing.T) {
	for _, l := range [][]api.Entry{nil, row(1, 3, 5)} {
		for _, s := range []api.Snap{{Members: []int{3}}, {Members: []int{1, 2}}} {
			d := holding(s, l...)
			list := []disktest.Call{syncs("w/0000000000000005")}[:min(1, len(l))]
			starts(t, "empty", d, started(d, s, api.Ledger{}, l...), list...)
			s.Data = packed(ledgertest.Some())
			d = holding(s, l...)
			starts(t, "some", d, started(d, s, ledgertest.Some(), l...), list...)
			s.Data = packed(api.Ledger{})
			d = holding(s, l...)
			starts(t, "of nothing", d, started(d, s, api.Ledger{}, l...), list...)
			s.Data = "state"
			d = holding(s, l...)
			left, _ := disktest.Row(d, list...)
			stays(t, "no state", start(t, "no state", 2, []int{1, 2}, d, 5), api.Replica{Id: 2, Disk: left}, api.ErrForm)
		}
	}
	empty := state(3, 1) // at another Index empty Data is no state
	empty.Data = ""
	for _, l := range [][]api.Entry{nil, row(1, 1, 3), row(4, 1, 1)} {
		d := holding(empty, l...)
		stays(t, "empty, at 3", start(t, "empty, at 3", 2, []int{1, 2}, d, 5), api.Replica{Id: 2, Disk: d}, api.ErrForm)
	}
	d := holding(api.Snap{Term: 1, Members: []int{1, 2}}) // the Data of which is none to ask for, but the Term is no right one
	stays(t, "a Term", start(t, "a Term", 2, []int{1, 2}, d, 5), api.Replica{Id: 2, Disk: d}, api.ErrState)
}

// 17.1: a log that ends below the snapshot is cut, all of it, from its end on back.
func TestStartAhead(t *testing.T) {
	s := state(20, 2)
	for n := 1; n <= 10; n++ {
		for _, from := range []uint64{1, 7, 20 - uint64(n)} {
			l := row(from, 2, n)
			d := holding(s, l...)
			list := []disktest.Call{syncs(d.Files[len(d.Files)-1].Name)}
			for i := len(d.Files) - 1; i >= 2; i-- {
				list = append(list, drops(d.Files[i].Name))
			}
			starts(t, "ahead of it", d, started(d, s, replicatest.State()), list...)
		}
	}
	just := row(16, 2, 5) // up to the snapshot, just so
	d := holding(s, just...)
	starts(t, "just so", d, started(d, s, replicatest.State()), syncs(d.Files[len(d.Files)-1].Name))
}

// 17.1: a log of which the snapshot's entry has another Term is cut, even if it goes on behind that.
func TestStartOfAnother(t *testing.T) {
	for _, term := range []uint64{1, 3} {
		for upto := uint64(3); upto <= 9; upto++ {
			l := row(3, 2, 7)
			s := state(upto, term)
			d := holding(s, l...)
			starts(t, "another Term", d, started(d, s, replicatest.State()), syncs("w/0000000000000007"), drops("w/0000000000000007"), drops("w/0000000000000003"))
		}
	}
	l := slices.Concat(row(3, 1, 2), row(5, 2, 1), row(6, 3, 1)) // the Term of that entry alone counts
	s := state(5, 2)
	d := holding(s, l...)
	starts(t, "the same Term", d, started(d, s, replicatest.State(), l[3:]...), syncs("w/0000000000000003"))
}

// 17.1: of a log without any entry a segment goes, too, whether it is torn or empty.
func TestStartNoEntries(t *testing.T) {
	for _, s := range []api.Snap{{}, state(9, 2), state(4, 1)} {
		for what, f := range map[string]api.File{
			"empty":      disktest.File("w/0000000000000005", ""),
			"torn":       disktest.File("w/0000000000000005", "?"),
			"not synced": {Name: "w/0000000000000005", Data: frames(task(5, 1))[:9]},
		} {
			d := disktest.With(holding(s), f)
			list := []disktest.Call{syncs(f.Name), drops(f.Name)}
			if f.Data != "" {
				list = slices.Insert(list, 0, cuts(f.Name, 0))
			}
			ledger := api.Ledger{}
			if s.Index > 0 {
				ledger = replicatest.State()
			}
			starts(t, what, d, started(d, s, ledger), list...)
		}
	}
}

// 17.1: what is torn of a log goes; what is not synced there is then.
func TestStartTorn(t *testing.T) {
	l := row(1, 2, 6)
	for size := 1; size < len(frames(l[5])); size++ {
		d := without(holding(api.Snap{}, l...), "w/0000000000000005", size)
		starts(t, "torn", d, started(d, api.Snap{}, api.Ledger{}, l[:5]...), cuts("w/0000000000000005", len(frames(l[4]))), syncs("w/0000000000000005"))
	}
	d := disktest.With(holding(api.Snap{}, l[:4]...), api.File{Name: "w/0000000000000005", Data: frames(l[4:]...), Synced: 3})
	starts(t, "not synced", d, started(d, api.Snap{}, api.Ledger{}, l...), syncs("w/0000000000000005"))
	d = disktest.With(holding(state(4, 2), l[:4]...), disktest.File("w/0000000000000005", "torn"))
	starts(t, "torn behind the snapshot", d, started(d, state(4, 2), replicatest.State()), cuts("w/0000000000000005", 0), syncs("w/0000000000000005"))
}

// wrongDisks are with a fault each, in the order in which these are told.
func wrongDisks() []struct {
	what   string
	why    api.Errno
	change func(d api.Disk) api.Disk
} {
	has := func(name, data string) func(d api.Disk) api.Disk {
		return func(d api.Disk) api.Disk {
			return disktest.With(disktest.Without(d, name), disktest.File(name, data))
		}
	}
	noState, _ := snap.Encode(api.Snap{Index: 4, Term: 2, Members: []int{1}, Data: "state"})
	later := framed(pack.Number(1) + pack.Number(3)) // a Term below the log's
	return []struct {
		what   string
		why    api.Errno
		change func(d api.Disk) api.Disk
	}{
		{"no power", api.ErrPower, disktest.Down},
		{"no hard", api.ErrForm, has("hard", "?")},
		{"no snap", api.ErrForm, has("snap", "?")},
		{"no segment", api.ErrForm, has("w/5", "")},
		{"a gap", api.ErrGap, has("w/00000000000000ff", "")},
		{"no state", api.ErrForm, has("snap", framed(noState))},
		{"too early a Term", api.ErrState, has("hard", later)},
	}
}

// 17.1: each error of what is on the disk, and which one is the first; the replica has fallen then.
func TestStartErrors(t *testing.T) {
	d := holding(state(4, 2), row(1, 2, 6)...)
	opened, _ := disk.Sync(d, "w/0000000000000005")
	for i, one := range wrongDisks() {
		wrong := one.change(d)
		stays(t, one.what, start(t, one.what, 2, []int{1, 2}, wrong, 5), api.Replica{Id: 2, Disk: wrong}, one.why)
		for _, id := range []int{0, 8, -1, most >> 1} { // whatever else is wrong
			stays(t, one.what, start(t, one.what, id, nil, wrong, 5), api.Replica{Id: id, Disk: wrong}, one.why)
		}
		for _, behind := range wrongDisks()[i+1:] {
			if both := one.change(behind.change(d)); one.what != "no hard" || behind.what != "too early a Term" { // these are of one file
				got := start(t, one.what+", "+behind.what, 2, []int{1, 2}, both, -1)
				if got.Why != one.why || got.X.Id != 2 || !disktest.Same(got.X.Disk, both) {
					t.Errorf("%s, and %s: error %d, %s", one.what, behind.what, got.Why, brief(got.X))
				}
			}
		}
	}
	for _, draw := range []int{-1, -1 << 63} {
		stays(t, "draw", start(t, "draw", 2, []int{1, 2}, d, draw), api.Replica{Id: 2, Disk: opened}, api.ErrRange)
		stays(t, "draw, and no Id", start(t, "draw, and no Id", 0, nil, d, draw), api.Replica{Disk: opened}, api.ErrRange)
	}
	for _, id := range []int{0, 8, -1, 1 << 32, most >> 1} {
		stays(t, "no Id", start(t, "no Id", id, []int{1, 2}, d, 5), api.Replica{Id: id, Disk: opened}, api.ErrState)
	}
	for _, first := range append(logtest.WrongMembers(), nil, []int{}) {
		stays(t, "no members", start(t, "no members", 2, first, d, 5), api.Replica{Id: 2, Disk: opened}, api.ErrState)
	}
	behind := holding(state(4, 2), row(6, 2, 3)...) // something between is not there
	opened, _ = disk.Sync(behind, "w/0000000000000006")
	stays(t, "behind a gap", start(t, "behind a gap", 2, []int{1, 2}, behind, 5), api.Replica{Id: 2, Disk: opened}, api.ErrState)
}

// 17.1: Data that is none is told behind the changes by which the log is opened, and ahead of those by which it is cut.
func TestStartNoStateThenPower(t *testing.T) {
	s := api.Snap{Index: 9, Term: 2, Members: []int{1}, Data: "state"}
	d := disktest.With(holding(s, row(1, 2, 4)...), disktest.File("w/0000000000000005", "torn"))
	opening := []disktest.Call{cuts("w/0000000000000005", 0), syncs("w/0000000000000005")}
	for fuse := range 4 {
		left, why := disktest.Row(disktest.Fused(d, fuse), opening...)
		if why == api.OK {
			why = api.ErrForm
		}
		stays(t, "no state", start(t, "no state", 2, []int{1, 2}, disktest.Fused(d, fuse), 5), api.Replica{Id: 2, Disk: left}, why)
	}
}

// 17.1: of a disk that is not right nothing is told but the error.
func TestStartWrongDisk(t *testing.T) {
	for what, d := range disktest.Wrong(disktest.File("hard", framed("??"))) {
		got := start(t, what, 2, []int{1, 2}, d, 5)
		got.X.Id = 0
		refused(t, what, got, api.ErrState)
	}
}

// 17.5: what Start answers OK is right, of all disks on which right replicas last.
func TestStartOfAll(t *testing.T) {
	ok := 0
	for what, x := range replicatest.Rights() {
		got := start(t, what, x.Id, x.Raft.First, x.Disk, 7)
		if got.Why != api.OK {
			continue
		}
		ok++
		if why := replica.Check(got.X); why != api.OK || got.X.Raft.Role != api.RoleFollow || got.X.Done != got.X.Raft.Snap.Index || len(got.X.Waits) != 0 {
			t.Errorf("%s: %s", what, brief(got.X))
		}
	}
	if ok < 100 {
		t.Errorf("only %d are started", ok)
	}
}
