// Package logtest is for tests alone: entries, snapshots, logs and messages to ask a layer with, right ones and wrong ones, and what its answers are held against.
package logtest

import (
	"math"
	"slices"
	"strings"

	"gaffer/api"
)

const (
	most     = math.MaxUint64
	entryMax = 4096  // bytes of an order's Data
	snapMax  = 64512 // bytes of a snapshot's
)

func Lead(index, term uint64) api.Entry {
	return api.Entry{Index: index, Term: term, Kind: api.EntryLead}
}

func Order(index, term uint64, data string) api.Entry {
	return api.Entry{Index: index, Term: term, Kind: api.EntryOrder, Data: data}
}

func Members(index, term uint64, list ...int) api.Entry {
	return api.Entry{Index: index, Term: term, Kind: api.EntryMembers, Members: list}
}

// RightEntries are of all kinds, at all edges, and no log.
func RightEntries() []api.Entry {
	return []api.Entry{
		Lead(1, 0),
		Lead(most, most),
		{Index: api.MaxNumber, Term: api.MaxNumber, Kind: api.EntryLead, Members: []int{}},
		Order(1, 0, ""),
		{Index: 1, Kind: api.EntryOrder, Members: []int{}},
		Order(256, 1, "\x00"),
		Order(1, 255, strings.Repeat("\xff", entryMax-1)),
		Order(most, most, strings.Repeat("x", entryMax)),
		Members(1, 4, 1),
		Members(2, 4, 7),
		Members(3, 4, 1, 7),
		Members(4, 4, 2, 3, 5),
		Members(most, 4, 1, 2, 3, 4, 5, 6, 7),
	}
}

// WrongEntries are not right, whatever their Term is; most of them have Index 1.
func WrongEntries() []api.Entry {
	list := []api.Entry{
		{},
		{Index: 1},
		{Index: 1, Data: "x"},
		{Index: 1, Members: []int{1}},
		Lead(0, 0),
		Order(0, 1, "x"),
		Members(0, 1, 1),
		{Index: 1, Kind: api.EntryCount},
		{Index: 1, Kind: api.EntryCount, Data: "x"},
		{Index: 1, Kind: api.EntryCount, Members: []int{1}},
		{Index: 1, Kind: 255},
		{Index: 1, Kind: api.EntryLead, Data: "x"},
		{Index: 1, Kind: api.EntryLead, Data: "\x00"},
		{Index: 1, Kind: api.EntryLead, Members: []int{1}},
		{Index: 1, Kind: api.EntryOrder, Members: []int{1}},
		{Index: 1, Kind: api.EntryOrder, Data: "x", Members: []int{1, 2}},
		Order(1, 0, strings.Repeat("x", entryMax+1)),
		Order(1, 0, strings.Repeat("x", api.MaxData)),
		Order(1, 0, strings.Repeat("x", api.MaxData+1)),
		{Index: 1, Kind: api.EntryMembers, Data: "x", Members: []int{1}},
	}
	for _, l := range append(WrongMembers(), nil, []int{}) {
		list = append(list, Members(1, 4, l...))
	}
	return list
}

// WrongMembers are some, but not right.
func WrongMembers() [][]int {
	return [][]int{{0}, {8}, {9}, {-1}, {math.MinInt}, {math.MaxInt}, {256}, {257}, {1 << 32}, {1<<32 + 1}, {1, 1}, {2, 1}, {0, 1}, {1, 0}, {1, 8}, {1, 3, 2}, {1, 2, 2}, {1, 2, 8}, {-1, 1}, {1, 2, 3, 4, 5, 6, 7, 7}, {1, 2, 3, 4, 5, 6, 7, 8}, {0, 1, 2, 3, 4, 5, 6, 7}, {7, 6, 5, 4, 3, 2, 1}}
}

// SameEntry takes nil and empty lists for alike; so do all the others.
func SameEntry(a, b api.Entry) bool {
	return a.Index == b.Index && a.Term == b.Term && a.Kind == b.Kind && a.Data == b.Data && slices.Equal(a.Members, b.Members)
}

func SameEntries(a, b []api.Entry) bool { return slices.EqualFunc(a, b, SameEntry) }

// CloneEntries has memory of its own; so have all the other clones.
func CloneEntries(l []api.Entry) []api.Entry {
	l = slices.Clone(l)
	for i := range l {
		l[i].Members = slices.Clone(l[i].Members)
	}
	return l
}
