package logtest_test

import (
	"slices"
	"testing"

	"gaffer/api"
	"gaffer/log"
	"gaffer/logtest"
	"gaffer/msg"
	"gaffer/snap"
	"gaffer/wal"
)

// What is said of entries, snapshots, logs and messages is so.
func TestRightAndWrong(t *testing.T) {
	for i, e := range logtest.RightEntries() {
		if why := wal.Check(e); why != api.OK {
			t.Errorf("right entry %d: error %d", i, why)
		}
	}
	for i, e := range logtest.WrongEntries() {
		for _, term := range []uint64{0, 1, 9} {
			e.Term = term
			if why := wal.Check(e); why == api.OK {
				t.Errorf("wrong entry %d is right", i)
			}
		}
	}
	for i, s := range logtest.RightSnaps() {
		if why := snap.Check(s); why != api.OK {
			t.Errorf("right snapshot %d: error %d", i, why)
		}
	}
	for i, s := range logtest.WrongSnaps() {
		if why := snap.Check(s); why == api.OK {
			t.Errorf("wrong snapshot %d is right", i)
		}
	}
	for what, l := range logtest.RightLogs() {
		if why := log.Check(l); why != api.OK {
			t.Errorf("right log %s: error %d", what, why)
		}
	}
	for what, l := range logtest.WrongLogs() {
		if why := log.Check(l); why == api.OK {
			t.Errorf("wrong log %s is right", what)
		}
	}
	for i, m := range logtest.RightMsgs() {
		if why := msg.Check(m); why != api.OK {
			t.Errorf("right message %d: error %d", i, why)
		}
	}
	for what, m := range logtest.WrongMsgs() {
		if why := msg.Check(m); why == api.OK {
			t.Errorf("wrong message %s is right", what)
		}
	}
	for i, m := range logtest.OverfullMsgs() {
		if why := msg.Check(m); why == api.OK {
			t.Errorf("overfull message %d is right", i)
		}
	}
}

// Each field counts, nil and empty lists are alike.
func TestSame(t *testing.T) {
	l := logtest.Some()
	if !logtest.SameLog(l, logtest.CloneLog(l)) || !logtest.SameLog(api.Log{}, api.Log{Entries: []api.Entry{}}) || !logtest.SameEntry(api.Entry{}, api.Entry{Members: []int{}}) || !logtest.SameSnap(api.Snap{}, api.Snap{Members: []int{}}) {
		t.Error("what is alike is told to be another one")
	}
	for i, change := range []func(l *api.Log){
		func(l *api.Log) { l.Base++ },
		func(l *api.Log) { l.BaseTerm++ },
		func(l *api.Log) { l.Entries = l.Entries[1:] },
		func(l *api.Log) { l.Entries[0].Index++ },
		func(l *api.Log) { l.Entries[0].Term++ },
		func(l *api.Log) { l.Entries[0].Kind = api.EntryLead },
		func(l *api.Log) { l.Entries[0].Data = "" },
		func(l *api.Log) { l.Entries[1].Members[2]++ },
	} {
		if m := logtest.With(change); logtest.SameLog(m, l) || logtest.Brief(m) == logtest.Brief(l) {
			t.Errorf("change %d is not seen", i)
		}
	}
	for i, s := range []api.Snap{{Index: 1}, {Term: 1}, {Members: []int{1}}, {Data: "x"}} {
		if logtest.SameSnap(s, api.Snap{}) || !logtest.SameSnap(s, logtest.CloneSnap(s)) {
			t.Errorf("snapshot %d is not itself", i)
		}
	}
}

// Each field of a message counts, too.
func TestSameMsg(t *testing.T) {
	all := api.Msg{Kind: api.MsgAppend, Term: 4, Index: 3, LogTerm: 2, Commit: 5, Ok: true, Entries: logtest.Batch(3, 2), Snap: logtest.SomeSnap()}
	if !logtest.SameMsg(all, logtest.CloneMsg(all)) || !logtest.SameMsg(api.Msg{}, api.Msg{Entries: []api.Entry{}, Snap: api.Snap{Members: []int{}}}) {
		t.Error("what is alike is told to be another one")
	}
	for i, change := range []func(m *api.Msg){
		func(m *api.Msg) { m.Kind = api.MsgAsk },
		func(m *api.Msg) { m.Term++ },
		func(m *api.Msg) { m.Index++ },
		func(m *api.Msg) { m.LogTerm++ },
		func(m *api.Msg) { m.Commit++ },
		func(m *api.Msg) { m.Ok = false },
		func(m *api.Msg) { m.Entries = m.Entries[:1] },
		func(m *api.Msg) { m.Entries[1].Members[0]++ },
		func(m *api.Msg) { m.Snap.Index++ },
		func(m *api.Msg) { m.Snap.Members[0]++ },
		func(m *api.Msg) { m.Snap.Data = "" },
	} {
		other := logtest.CloneMsg(all)
		if change(&other); logtest.SameMsg(other, all) || logtest.BriefMsg(other) == logtest.BriefMsg(all) {
			t.Errorf("change %d is not seen", i)
		}
	}
}

// What is told of a call that shares nothing, and of others that do.
func TestShares(t *testing.T) {
	kept := logtest.Some().Entries
	for what, one := range map[string]struct {
		call logtest.Call
		want bool
	}{
		"nothing":  {func([][]api.Entry) []api.Entry { return nil }, false},
		"a clone":  {func(given [][]api.Entry) []api.Entry { return logtest.CloneEntries(given[0]) }, false},
		"itself":   {func(given [][]api.Entry) []api.Entry { return given[0] }, true},
		"a part":   {func(given [][]api.Entry) []api.Entry { return given[1][1:2:2] }, true},
		"Members":  {func(given [][]api.Entry) []api.Entry { return slices.Clone(given[0]) }, true},
		"the room": {func(given [][]api.Entry) []api.Entry { return append(given[0], logtest.Lead(9, 9)) }, true},
		"a member's room": {func(given [][]api.Entry) []api.Entry {
			_ = append(given[0][1].Members, 5)
			return nil
		}, true},
		"a change": {func(given [][]api.Entry) []api.Entry { given[1][0].Index = 5; return nil }, true},
		"a member's change": {func(given [][]api.Entry) []api.Entry {
			given[0][1].Members[0] = 5
			return nil
		}, true},
		"an earlier answer": {func([][]api.Entry) []api.Entry { return kept }, true},
		"one list twice": {func(given [][]api.Entry) []api.Entry {
			m := slices.Clone(given[0][1].Members)
			return []api.Entry{{Members: m}, {Members: m[:2]}}
		}, true},
		"another one each time": {func(given [][]api.Entry) []api.Entry {
			kept[0].Index++
			return logtest.CloneEntries(kept)
		}, true},
	} {
		if shares := logtest.Shares(one.call, logtest.Some().Entries, logtest.Some().Entries); (shares != "") != one.want {
			t.Errorf("%s: told is %q", what, shares)
		}
	}
}
