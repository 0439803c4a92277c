package logtest

import (
	"slices"

	"gaffer/api"
)

// Call is one of a layer's: it is given lists of entries, and answers all entries that it tells, or a list of Members as those of an entry.
type Call func(given [][]api.Entry) []api.Entry

const (
	room   = 77 // what stands behind the end of a list of Members
	spoilt = 99
)

// Shares tells what memory a call's answer shares, or what it changes, or nothing: with an earlier answer, with what was handed in, with the room behind its lists, or of one list with another.
func Shares(call Call, lists ...[]api.Entry) string {
	given := each(lists, roomy)
	before := each(given, whole)
	first := call(given)
	told := CloneEntries(first)
	again := call(given)
	if !SameEntries(again, first) {
		return "asked again it is another one"
	}
	spoil(again)
	for i, l := range each(given, whole) {
		if !SameEntries(l, before[i]) {
			return "what was handed in is changed, or shared"
		}
	}
	if !SameEntries(first, told) {
		return "two answers share memory"
	}
	for _, l := range given {
		spoil(l)
	}
	if !SameEntries(first, told) {
		return "the answer shares memory with what was handed in"
	}
	if !Apart(first) {
		return "two lists of the answer share memory"
	}
	return ""
}

// Apart tells whether no two lists of Members share memory, or the room behind them. It writes all over one behind the other, and none of that may be seen in another one.
func Apart(l []api.Entry) bool {
	want := CloneEntries(l)
	for i, e := range l {
		if !slices.Equal(e.Members, want[i].Members) {
			return false
		}
		fill(e.Members, spoilt+i)
	}
	for i, e := range l {
		if len(e.Members) > 0 && e.Members[0] != spoilt+i {
			return false
		}
	}
	return true
}

func each(lists [][]api.Entry, made func([]api.Entry) []api.Entry) [][]api.Entry {
	var all [][]api.Entry
	for _, l := range lists {
		all = append(all, made(l))
	}
	return all
}

// roomy is a clone of l with room behind each list's end, in which something stands.
func roomy(l []api.Entry) []api.Entry {
	l = append(CloneEntries(l), Lead(room, room))
	for i := range l {
		m := append(l[i].Members, room)
		l[i].Members = m[:len(m)-1]
	}
	return l[:len(l)-1]
}

// whole is a clone of what roomy made, with what stands behind each list's end.
func whole(l []api.Entry) []api.Entry {
	l = slices.Clone(l[:len(l)+1])
	for i := range l {
		m := l[i].Members
		l[i].Members = slices.Clone(m[:min(len(m)+1, cap(m))])
	}
	return l
}

// spoil writes all over l, its lists, and the room behind them.
func spoil(l []api.Entry) {
	for _, e := range l {
		fill(e.Members, spoilt)
	}
	fill(l, Order(spoilt, spoilt, "spoilt"))
}

func fill[T any](l []T, with T) {
	l = l[:cap(l)]
	for i := range l {
		l[i] = with
	}
}
