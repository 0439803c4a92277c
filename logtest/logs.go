package logtest

import (
	"slices"
	"strconv"

	"gaffer/api"
)

// Some has a Base, and entries of all kinds behind it: Index 3 to 7.
func Some() api.Log {
	return api.Log{Base: 2, BaseTerm: 1, Entries: []api.Entry{
		Order(3, 1, "three"), Members(4, 2, 1, 2, 3), Lead(5, 2), Members(6, 4, 1, 2, 3, 5), Order(7, 4, "seven"),
	}}
}

// With is Some with a change.
func With(change func(l *api.Log)) api.Log {
	l := Some()
	change(&l)
	return l
}

// Row is a log of the entries behind base that have these Terms; each second one has Members.
func Row(base, baseTerm uint64, terms ...uint64) api.Log {
	l := api.Log{Base: base, BaseTerm: baseTerm}
	for i, term := range terms {
		index := base + 1 + uint64(i)
		e := Order(index, term, "of "+strconv.FormatUint(index, 10))
		if i%2 == 1 {
			e = Members(index, term, 1, 2+i%5, 7)
		}
		l.Entries = append(l.Entries, e)
	}
	return l
}

// RightLogs are logs at all edges.
func RightLogs() map[string]api.Log {
	list := map[string]api.Log{
		"nothing":              {},
		"an empty list":        {Entries: []api.Entry{}},
		"a Base alone":         {Base: 7, BaseTerm: 3},
		"a Base of Term 0":     {Base: 7},
		"the last Base":        {Base: most, BaseTerm: most},
		"some":                 Some(),
		"Term 0":               Row(0, 0, 0, 0),
		"Term 0 on a Base":     Row(1, 0, 0, 0, 1),
		"one Term":             Row(0, 0, 5, 5, 5),
		"the BaseTerm":         Row(4, 5, 5, 5, 5),
		"Terms that rise":      Row(9, 1, 2, 3, 4, 200, 1<<32, 1<<32+1),
		"to MaxNumber":         Row(api.MaxNumber-2, api.MaxNumber-1, api.MaxNumber-1, api.MaxNumber),
		"from MaxNumber":       Row(api.MaxNumber, api.MaxNumber, api.MaxNumber, api.MaxNumber+1, most),
		"about 32 bits":        Row(1<<32-2, 1<<32-2, 1<<32-1, 1<<32, 1<<32+1),
		"to the last of all":   Row(most-3, most-1, most-1, most, most),
		"as many as are open":  Row(16, 1, slices.Repeat([]uint64{2}, api.MaxOpen)...),
		"more than an install": Row(0, 0, slices.Repeat([]uint64{1}, 1000)...),
	}
	for i, e := range RightEntries() {
		list["one right entry, "+strconv.Itoa(i)] = api.Log{Base: e.Index - 1, Entries: []api.Entry{e}}
	}
	return list
}

// WrongLogs are logs with a fault each.
func WrongLogs() map[string]api.Log {
	list := map[string]api.Log{
		"a BaseTerm alone":        {BaseTerm: 1},
		"the last BaseTerm alone": {BaseTerm: most},
		"a BaseTerm, no Base":     Row(0, 1, 1, 1),
		"too early":               {Base: 2, BaseTerm: 1, Entries: []api.Entry{Lead(2, 1), Lead(3, 1)}},
		"too late":                {Base: 2, BaseTerm: 1, Entries: []api.Entry{Lead(4, 1)}},
		"too late, on nothing":    {Entries: []api.Entry{Lead(2, 1)}},
		"Index 0":                 {Entries: []api.Entry{Lead(0, 0)}},
		"Index 0, then 1":         {Entries: []api.Entry{Lead(0, 0), Lead(1, 0)}},
		"Index 1 of 32 bits":      {Base: 1 << 32, Entries: []api.Entry{Lead(1, 1)}},
		"behind the last of all":  {Base: most, BaseTerm: 1, Entries: []api.Entry{Lead(0, 1)}},
		"from 1 on again":         {Base: most, BaseTerm: 1, Entries: []api.Entry{Lead(1, 1)}},
		"wrapped round":           {Base: most - 1, BaseTerm: 1, Entries: []api.Entry{Lead(most, 1), Lead(0, 1)}},
		"wrapped round, to 1":     {Base: most - 1, BaseTerm: 1, Entries: []api.Entry{Lead(most, 1), Lead(1, 1)}},
		"a gap":                   With(func(l *api.Log) { l.Entries = slices.Delete(l.Entries, 2, 3) }),
		"a gap at the end":        With(func(l *api.Log) { l.Entries[4].Index++ }),
		"twice":                   With(func(l *api.Log) { l.Entries[2].Index-- }),
		"twice at the end":        With(func(l *api.Log) { l.Entries[4].Index-- }),
		"Indexes fall":            With(func(l *api.Log) { l.Entries[2].Index, l.Entries[3].Index = 6, 5 }),
		"below the BaseTerm":      Row(2, 2, 1, 2, 3),
		"alone below it":          Row(2, 1, 0),
		"far below it":            Row(2, most, 1<<63),
		"Terms fall":              Row(2, 1, 1, 3, 2, 3),
		"the last Term falls":     Row(2, 1, 1, 2, 3, 2),
		"Terms fall to 0":         Row(0, 0, 1, 0),
		"Terms fall from a great": Row(0, 0, 1, 1<<32, 2),
	}
	for i, e := range WrongEntries() {
		list["a wrong entry, "+strconv.Itoa(i)] = api.Log{Entries: []api.Entry{e}}
		if e.Index > 0 {
			e.Index = 8
		}
		e.Term = 9
		list["a wrong entry at the end, "+strconv.Itoa(i)] = With(func(l *api.Log) { l.Entries = append(l.Entries, e) })
	}
	return list
}

func SameLog(a, b api.Log) bool {
	return a.Base == b.Base && a.BaseTerm == b.BaseTerm && SameEntries(a.Entries, b.Entries)
}

func CloneLog(l api.Log) api.Log {
	l.Entries = CloneEntries(l.Entries)
	return l
}

// Brief is few words on l, however much is there.
func Brief(l api.Log) string {
	return "behind " + strconv.FormatUint(l.Base, 10) + " of Term " + strconv.FormatUint(l.BaseTerm, 10) + ": " + BriefEntries(l.Entries)
}

func BriefEntries(l []api.Entry) string {
	s := strconv.Itoa(len(l)) + " entries"
	for _, e := range l[:min(8, len(l))] {
		s += " {" + strconv.FormatUint(e.Index, 10) + " " + strconv.FormatUint(e.Term, 10) + " " + strconv.Itoa(int(e.Kind)) + " " + strconv.Quote(e.Data[:min(9, len(e.Data))]) + ":" + strconv.Itoa(len(e.Data)) + BriefMembers(e.Members) + "}"
	}
	return s
}
