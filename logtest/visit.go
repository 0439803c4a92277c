package logtest

import (
	"gaffer/api"
	"gaffer/memtest"
)

// VisitLog goes through all lists of l; so do the others of what they are given.
func VisitLog(v *memtest.Visitor, l *api.Log) { VisitEntries(v, &l.Entries) }

func VisitEntries(v *memtest.Visitor, l *[]api.Entry) {
	memtest.List(v, l, func(n int) api.Entry { return Lead(uint64(n), room) }, SameEntry, func(e *api.Entry) { VisitMembers(v, &e.Members) })
}

func VisitSnap(v *memtest.Visitor, s *api.Snap) { VisitMembers(v, &s.Members) }

func VisitMsg(v *memtest.Visitor, m *api.Msg) {
	VisitEntries(v, &m.Entries)
	VisitSnap(v, &m.Snap)
}

// VisitMembers is of numbers of replicas, whatever they are for.
func VisitMembers(v *memtest.Visitor, l *[]int) {
	memtest.Plain(v, l, func(n int) int { return room + n })
}
