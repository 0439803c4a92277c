// Package coretest is for tests alone: replicas to ask a layer with that has to do with them, right ones and wrong ones, and what its answers are held against.
package coretest

import (
	"math"
	"slices"
	"strconv"

	"gaffer/api"
	"gaffer/logtest"
)

const (
	most    = math.MaxUint64
	longest = api.MinWait + api.Spread // ticks that one waits, at most
)

// Following has something in each field that one who follows has, and entries of all kinds: 3 to 7, of the Terms 1, 2, 2, 4, 4, behind a snapshot; the members are 1, 2, 3, 5, the sure ones 1, 2, 3.
func Following() api.Raft {
	return api.Raft{
		Id: 2, First: []int{1, 2}, Term: 4, Vote: 3, Leader: 3, Commit: 5, Wait: 12, Log: logtest.Some(),
		Snap: api.Snap{Index: 2, Term: 1, Members: []int{1, 2}, Data: "state"},
	}
}

// Standing is likewise, and has its own vote.
func Standing() api.Raft {
	r := Following()
	r.Role, r.Vote, r.Leader, r.Votes = api.RoleStand, 2, 0, []int{2}
	return r
}

// Leading is likewise: one peer has all, one is to be sent something, one the snapshot.
func Leading() api.Raft {
	r := Following()
	r.Role, r.Vote, r.Leader = api.RoleLead, 2, 2
	r.Peers = []api.Peer{{Id: 1, Next: 8, Match: 7}, {Id: 3, Next: 6, Match: 3}, {Id: 5, Next: 2, Match: 1}}
	return r
}

// Fresh is one that starts of nothing.
func Fresh(id int, first ...int) api.Raft {
	return api.Raft{Id: id, First: first, Wait: api.MinWait}
}

// Holding is r with that log, a snapshot that it stands behind, and a Term that is high enough; nothing of it is settled.
func Holding(r api.Raft, l api.Log) api.Raft {
	r.Log, r.Commit = l, l.Base
	r.Snap = api.Snap{Index: l.Base, Term: l.BaseTerm, Members: []int{1, 2, 3}, Data: "state"}
	r.Peers = nil
	r.Term = max(r.Term, termOf(l))
	return r
}

// Ended is r with a log that ends at that Index, of which all but the last entry is settled.
func Ended(r api.Raft, end uint64) api.Raft {
	r = Holding(r, logtest.Row(end-3, 1, 1, 2, 3))
	r.Commit = end - 1
	return r
}

func termOf(l api.Log) uint64 {
	if len(l.Entries) == 0 {
		return l.BaseTerm
	}
	return l.Entries[len(l.Entries)-1].Term
}

func endOf(l api.Log) uint64 { return l.Base + uint64(len(l.Entries)) }

// With is r with a change.
func With(r api.Raft, change func(r *api.Raft)) api.Raft {
	r = Clone(r)
	change(&r)
	return r
}

// all are one of each Role.
func all() map[string]api.Raft {
	return map[string]api.Raft{"follows": Following(), "stands": Standing(), "leads": Leading()}
}

// Rights are replicas at all edges.
func Rights() map[string]api.Raft {
	list := map[string]api.Raft{
		"of nothing":         Fresh(1, 1, 2, 3),
		"alone":              Fresh(1, 1),
		"alone, the last":    Fresh(7, 7),
		"none of its own":    Fresh(4, 1, 2, 3),
		"one of all":         Fresh(4, 1, 2, 3, 4, 5, 6, 7),
		"empty lists":        {Id: 1, First: []int{1}, Log: api.Log{Entries: []api.Entry{}}, Snap: api.Snap{Members: []int{}}, Votes: []int{}, Peers: []api.Peer{}},
		"entries of Term 0":  {Id: 1, First: []int{1}, Log: logtest.Row(0, 0, 0, 0)},
		"a snapshot of none": {Id: 1, First: []int{1, 2}, Snap: api.Snap{Members: []int{3}, Data: "state"}},
		"a Base of Term 0":   {Id: 1, First: []int{1, 2}, Log: api.Log{Base: 7}, Snap: api.Snap{Index: 7, Members: []int{3}}, Commit: 7},
	}
	for role, r := range all() {
		for what, change := range rightChanges() {
			list[role+", "+what] = With(r, change)
		}
		for what, l := range logtest.RightLogs() {
			if endOf(l) <= api.MaxNumber && termOf(l) <= api.MaxNumber {
				list[role+", a log: "+what] = Holding(r, l)
			}
		}
		for i, s := range logtest.RightSnaps() {
			if held := Holding(r, api.Log{Base: s.Index, BaseTerm: s.Term}); s.Index <= api.MaxNumber && s.Term <= api.MaxNumber && (s.Index > 0 || s.Term == 0) {
				held.Snap = s
				list[role+", a snapshot: "+strconv.Itoa(i)] = held
			}
		}
	}
	return list
}

// rightChanges are of each Role.
func rightChanges() map[string]func(r *api.Raft) {
	last := func(r *api.Raft) uint64 { return endOf(r.Log) }
	return map[string]func(r *api.Raft){
		"as it is":              func(r *api.Raft) {},
		"the first Id":          func(r *api.Raft) { r.Id, r.Peers = 1, nil },
		"the last Id":           func(r *api.Raft) { r.Id = 7 },
		"First all":             func(r *api.Raft) { r.First = []int{1, 2, 3, 4, 5, 6, 7} },
		"First without itself":  func(r *api.Raft) { r.First = []int{7} },
		"the last Term":         func(r *api.Raft) { r.Term = api.MaxNumber },
		"the end's Term":        func(r *api.Raft) { r.Term = termOf(r.Log) },
		"no Vote, no Leader":    func(r *api.Raft) { r.Vote, r.Leader = 0, 0 },
		"the last for both":     func(r *api.Raft) { r.Vote, r.Leader = 7, 7 },
		"Commit at the Base":    func(r *api.Raft) { r.Commit = r.Log.Base },
		"Commit at the end":     func(r *api.Raft) { r.Commit = last(r) },
		"all Votes":             func(r *api.Raft) { r.Votes = []int{1, 2, 3, 4, 5, 6, 7} },
		"no Votes":              func(r *api.Raft) { r.Votes = nil },
		"another one's Vote":    func(r *api.Raft) { r.Votes = []int{7} },
		"no Peers":              func(r *api.Raft) { r.Peers = nil },
		"all Peers":             func(r *api.Raft) { r.Peers = peers(1, 0, 1, 3, 4, 5, 6, 7) },
		"Peers at the end":      func(r *api.Raft) { r.Peers = peers(last(r)+1, last(r), 1, 7) },
		"Peers above Match":     func(r *api.Raft) { r.Peers = peers(5, 4, 3, 6) },
		"no Wait":               func(r *api.Raft) { r.Wait = 0 },
		"the longest Wait":      func(r *api.Raft) { r.Wait = longest },
		"of no snapshot":        func(r *api.Raft) { r.Log, r.Snap, r.Commit, r.Peers = logtest.Row(0, 0, 1, 4), api.Snap{}, 1, nil },
		"an end at the last":    func(r *api.Raft) { *r = Ended(*r, api.MaxNumber) },
		"an end ahead of it":    func(r *api.Raft) { *r = Ended(*r, api.MaxNumber-1) },
		"as many as are open":   func(r *api.Raft) { *r = Holding(*r, logtest.Row(9, 1, slices.Repeat([]uint64{3}, api.MaxOpen)...)) },
		"more than are open":    func(r *api.Raft) { *r = Holding(*r, logtest.Row(9, 1, slices.Repeat([]uint64{3}, api.MaxOpen+1)...)) },
		"a Term that it has no": func(r *api.Raft) { r.Term = 1 << 33 },
	}
}

// peers are of those Ids, with one Next and one Match.
func peers(next, match uint64, ids ...int) []api.Peer {
	var l []api.Peer
	for _, id := range ids {
		l = append(l, api.Peer{Id: id, Next: next, Match: match})
	}
	return l
}

// Wrongs are replicas with a fault each.
func Wrongs() map[string]api.Raft {
	list := map[string]api.Raft{
		"nothing":          {},
		"no Id":            Fresh(0, 1, 2, 3),
		"no members":       Fresh(1),
		"leads in no Term": {Id: 1, First: []int{1}, Role: api.RoleLead},
		"stands likewise":  {Id: 1, First: []int{1}, Role: api.RoleStand},
	}
	for role, r := range all() {
		for what, change := range wrongChanges() {
			list[role+", "+what] = With(r, change)
		}
		for what, change := range wrongIds() {
			list[role+", "+what] = With(r, change)
		}
		for what, l := range logtest.WrongLogs() {
			list[role+", a log: "+what] = Holding(r, l)
		}
		for i, s := range logtest.WrongSnaps() {
			held := Holding(r, api.Log{Base: s.Index, BaseTerm: s.Term})
			held.Snap = s
			list[role+", a snapshot: "+strconv.Itoa(i)] = held
		}
	}
	return list
}

func wrongChanges() map[string]func(r *api.Raft) {
	last := func(r *api.Raft) uint64 { return endOf(r.Log) }
	return map[string]func(r *api.Raft){
		"Term too high":         func(r *api.Raft) { r.Term = api.MaxNumber + 1 },
		"the last Term of all":  func(r *api.Raft) { r.Term = most },
		"Term below the end's":  func(r *api.Raft) { r.Term = termOf(r.Log) - 1 },
		"below that of a Base":  func(r *api.Raft) { *r = Holding(*r, api.Log{Base: 9, BaseTerm: 9}); r.Term = 8 },
		"the end too high":      func(r *api.Raft) { *r = Ended(*r, api.MaxNumber+1) },
		"the Base too high":     func(r *api.Raft) { *r = Holding(*r, api.Log{Base: api.MaxNumber + 1, BaseTerm: 1}) },
		"the last end of all":   func(r *api.Raft) { *r = Ended(*r, most) },
		"Commit below the Base": func(r *api.Raft) { r.Commit = r.Log.Base - 1 },
		"no Commit":             func(r *api.Raft) { r.Commit = 0 },
		"Commit above the end":  func(r *api.Raft) { r.Commit = last(r) + 1 },
		"Commit far above":      func(r *api.Raft) { r.Commit = most },
		"Commit of nothing":     func(r *api.Raft) { r.Log, r.Snap, r.Peers, r.Commit = api.Log{}, api.Snap{}, nil, 1 },
		"no Role":               func(r *api.Raft) { r.Role = api.RoleCount },
		"no Role, far above":    func(r *api.Raft) { r.Role = 255 },
		"Snap below the Base":   func(r *api.Raft) { r.Snap.Index-- },
		"Snap above the Base":   func(r *api.Raft) { r.Snap.Index++ },
		"Snap of another Term":  func(r *api.Raft) { r.Snap.Term++ },
		"Snap of Term 0":        func(r *api.Raft) { r.Snap.Term = 0 },
		"no Snap":               func(r *api.Raft) { r.Snap = api.Snap{} },
		"Snap, but no Base":     func(r *api.Raft) { r.Log, r.Commit, r.Peers = api.Log{}, 0, nil },
		"a Snap's Term alone":   func(r *api.Raft) { r.Log, r.Commit, r.Peers, r.Snap.Index = api.Log{}, 0, nil, 0 },
		"Wait below 0":          func(r *api.Raft) { r.Wait = -1 },
		"Wait far below 0":      func(r *api.Raft) { r.Wait = math.MinInt },
		"Wait too long":         func(r *api.Raft) { r.Wait = longest + 1 },
		"Wait far too long":     func(r *api.Raft) { r.Wait = math.MaxInt },
		"Peers twice":           func(r *api.Raft) { r.Peers = peers(3, 0, 1, 3, 3, 5) },
		"Peers that fall":       func(r *api.Raft) { r.Peers = peers(3, 0, 3, 1) },
		"itself a Peer":         func(r *api.Raft) { r.Peers = peers(3, 0, 1, 2, 3) },
		"itself alone":          func(r *api.Raft) { r.Peers = peers(3, 0, 2) },
		"Next at Match":         func(r *api.Raft) { r.Peers = append(peers(3, 0, 1), peers(3, 3, 3)...) },
		"Next below Match":      func(r *api.Raft) { r.Peers = append(peers(3, 4, 1), peers(3, 0, 3)...) },
		"no Next":               func(r *api.Raft) { r.Peers = peers(0, 0, 1) },
		"Next above the end":    func(r *api.Raft) { r.Peers = peers(last(r)+2, 0, 1) },
		"Next far above":        func(r *api.Raft) { r.Peers = append(peers(3, 0, 1), peers(most, 0, 3)...) },
		"Match above the end":   func(r *api.Raft) { r.Peers = peers(last(r)+2, last(r)+1, 1) },
		"the last Match of all": func(r *api.Raft) { r.Peers = peers(0, most, 1) },
	}
}

// wrongIds are where replicas stand of which there are none.
func wrongIds() map[string]func(r *api.Raft) {
	list := map[string]func(r *api.Raft){
		"no First":      func(r *api.Raft) { r.First = nil },
		"an empty one":  func(r *api.Raft) { r.First = []int{} },
		"a Peer 0":      func(r *api.Raft) { r.Peers = peers(3, 0, 0, 1) },
		"a Peer 8":      func(r *api.Raft) { r.Peers = peers(3, 0, 1, 8) },
		"a Peer 8 only": func(r *api.Raft) { r.Peers = peers(3, 0, 8) },
		"a Peer -1":     func(r *api.Raft) { r.Peers = peers(3, 0, -1) },
		"Id 0":          func(r *api.Raft) { r.Id = 0 },
	}
	for _, id := range []int{-1, 8, 9, 256, 257, 258, 1<<32 + 2, math.MinInt, math.MaxInt} {
		n := strconv.Itoa(id)
		list["Id "+n] = func(r *api.Raft) { r.Id = id }
		list["Vote "+n] = func(r *api.Raft) { r.Vote = id }
		list["Leader "+n] = func(r *api.Raft) { r.Leader = id }
	}
	for i, members := range logtest.WrongMembers() {
		n := strconv.Itoa(i)
		list["First "+n] = func(r *api.Raft) { r.First = slices.Clone(members) }
		list["Votes "+n] = func(r *api.Raft) { r.Votes = slices.Clone(members) }
	}
	return list
}
