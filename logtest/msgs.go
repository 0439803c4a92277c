package logtest

import (
	"slices"
	"strconv"
	"strings"

	"gaffer/api"
)

// The messages, one of each kind.

func Ask(term, index, logTerm uint64) api.Msg {
	return api.Msg{Kind: api.MsgAsk, Term: term, Index: index, LogTerm: logTerm}
}

func Voted(term uint64, ok bool) api.Msg {
	return api.Msg{Kind: api.MsgVoted, Term: term, Ok: ok}
}

func Appends(term, index, logTerm, commit uint64, l ...api.Entry) api.Msg {
	return api.Msg{Kind: api.MsgAppend, Term: term, Index: index, LogTerm: logTerm, Commit: commit, Entries: l}
}

func Appended(term uint64, ok bool, index uint64) api.Msg {
	return api.Msg{Kind: api.MsgAppended, Term: term, Ok: ok, Index: index}
}

func Install(term uint64, s api.Snap) api.Msg {
	return api.Msg{Kind: api.MsgInstall, Term: term, Snap: s}
}

// numbers are at the edges of what is spelt with so many bytes; the first one is 0.
func numbers() []uint64 {
	return []uint64{0, 1, 255, 256, 65535, 65536, 1<<32 - 1, 1 << 32, api.MaxNumber, api.MaxNumber + 1, most - 1, most}
}

// SomeSnap is right.
func SomeSnap() api.Snap {
	return api.Snap{Index: 5, Term: 1, Members: []int{1, 2, 7}, Data: "state"}
}

// Batch are so many entries of all kinds behind index.
func Batch(index uint64, n int) []api.Entry {
	var l []api.Entry
	for i := range n {
		at := index + 1 + uint64(i)
		switch i % 3 {
		case 0:
			l = append(l, Order(at, 3, "data "+strconv.Itoa(i)))
		case 1:
			l = append(l, Members(at, 3, 1, 2+i%5, 7))
		default:
			l = append(l, Lead(at, 4))
		}
	}
	return l
}

// Bulky are so many entries that need as many bytes as may be, the last one being the last that there is.
func Bulky(n int) []api.Entry {
	var l []api.Entry
	for i := range n {
		l = append(l, Order(most-uint64(n-1-i), most, strings.Repeat("x", 4096)))
	}
	return l
}

// WidestMsgs are an append and an install that need as many bytes as may be.
func WidestMsgs() []api.Msg {
	return []api.Msg{
		{Kind: api.MsgAppend, Term: most, Index: most - api.MaxBatch, LogTerm: most, Commit: most, Entries: Bulky(api.MaxBatch)},
		{Kind: api.MsgInstall, Term: most, Snap: api.Snap{Index: most, Term: most, Members: []int{1, 2, 3, 4, 5, 6, 7}, Data: strings.Repeat("z", 64512)}},
	}
}

// MsgsOfEachKind are of few bytes, with something in each field that the kind has.
func MsgsOfEachKind() []api.Msg {
	return []api.Msg{
		{Kind: api.MsgAsk, Term: 2, Index: 3, LogTerm: 1},
		{Kind: api.MsgVoted, Term: 2, Ok: true},
		{Kind: api.MsgAppend, Term: 4, Index: 300, LogTerm: 3, Commit: 299, Entries: Batch(300, 4)},
		{Kind: api.MsgAppended, Term: 2, Ok: true, Index: 4},
		{Kind: api.MsgInstall, Term: 2, Snap: SomeSnap()},
	}
}

// RightMsgs are messages at all edges.
func RightMsgs() []api.Msg {
	list := append(MsgsOfEachKind(), WidestMsgs()...)
	for _, n := range numbers() {
		for _, ok := range []bool{false, true} {
			list = append(list, api.Msg{Kind: api.MsgVoted, Term: max(n, 1), Ok: ok}, api.Msg{Kind: api.MsgAppended, Term: max(n, 1), Ok: ok, Index: most - n}, api.Msg{Kind: api.MsgAppended, Term: 1, Ok: ok, Index: n})
		}
		list = append(list,
			api.Msg{Kind: api.MsgAsk, Term: max(n, 1)}, api.Msg{Kind: api.MsgAsk, Term: 1, Index: n}, api.Msg{Kind: api.MsgAsk, Term: 1, LogTerm: n},
			api.Msg{Kind: api.MsgAppend, Term: max(n, 1)}, api.Msg{Kind: api.MsgAppend, Term: 1, Index: n}, api.Msg{Kind: api.MsgAppend, Term: 1, LogTerm: n}, api.Msg{Kind: api.MsgAppend, Term: 1, Commit: n},
			api.Msg{Kind: api.MsgInstall, Term: max(n, 1), Snap: SomeSnap()},
		)
	}
	for n := range api.MaxBatch + 1 {
		list = append(list, api.Msg{Kind: api.MsgAppend, Term: 2, Index: 3, Entries: Batch(3, n)}, api.Msg{Kind: api.MsgAppend, Term: 2, Entries: Batch(0, n)}, api.Msg{Kind: api.MsgAppend, Term: 2, Index: most - uint64(n), Entries: Batch(most-uint64(n), n)})
	}
	for _, e := range RightEntries() {
		list = append(list, api.Msg{Kind: api.MsgAppend, Term: 1, Index: e.Index - 1, Entries: []api.Entry{e}})
	}
	for _, s := range RightSnaps() {
		if s.Index > 0 {
			list = append(list, api.Msg{Kind: api.MsgInstall, Term: 1, Snap: s})
		}
	}
	return append(list,
		api.Msg{Kind: api.MsgAppend, Term: 1, Entries: []api.Entry{}},
		api.Msg{Kind: api.MsgAppend, Term: 5, Index: 2, Entries: []api.Entry{Lead(3, 9), Lead(4, 1), Lead(5, 0)}}, // of what Terms they are is no matter here
	)
}

// WrongMsgs are those with a fault in what their kind has, or of no kind: so their bytes have it, too.
func WrongMsgs() map[string]api.Msg {
	list := map[string]api.Msg{}
	for i, m := range RightMsgs() {
		m.Term = 0
		list["Term 0, "+strconv.Itoa(i)] = m
	}
	for _, kind := range []api.MsgKind{api.MsgNone, api.MsgCount, api.MsgCount + 1, 128, 254, 255} {
		list["no kind: "+strconv.Itoa(int(kind))] = api.Msg{Kind: kind, Term: 1}
	}
	add := func(what string, index uint64, l ...api.Entry) {
		list["entries: "+what] = api.Msg{Kind: api.MsgAppend, Term: 9, Index: index, Entries: l}
	}
	add("one too many", 3, Batch(3, api.MaxBatch+1)...)
	add("one too many, of a byte each", 0, slices.Repeat(Batch(0, 1), api.MaxBatch+1)...)
	add("twice too many", 3, Batch(3, 2*api.MaxBatch)...)
	add("far too many", 0, Batch(0, 256)...)
	add("of the Index itself", 3, Batch(2, 2)...)
	add("behind a gap", 3, Batch(4, 2)...)
	add("from 2 on", 0, Batch(1, 1)...)
	add("far behind", 3, Batch(1<<32+3, 1)...)
	add("far ahead", 1<<32+3, Batch(3, 1)...)
	add("with a gap", 3, append(Batch(3, 2), Lead(7, 9))...)
	add("with a gap at the end", 3, append(Batch(3, 7), Lead(12, 9))...)
	add("one twice", 3, append(Batch(3, 2), Lead(5, 9))...)
	add("that fall", 3, Lead(5, 1), Lead(4, 1))
	add("of Index 0", 0, Lead(0, 1))
	add("wrapped round", most, Lead(0, 1))
	add("wrapped round to 1", most, Lead(1, 1))
	add("wrapped round within", most-1, Lead(most, 1), Lead(0, 1))
	for i, e := range WrongEntries() {
		add("wrong one "+strconv.Itoa(i), 0, e)
		if e.Index > 0 {
			e.Index = 5
		}
		add("wrong one behind others "+strconv.Itoa(i), 2, append(Batch(2, 2), e)...)
		add("wrong one ahead of others "+strconv.Itoa(i), 4, e, Lead(6, 9))
	}
	for i, s := range WrongSnaps() {
		list["wrong snapshot "+strconv.Itoa(i)] = api.Msg{Kind: api.MsgInstall, Term: 1, Snap: s}
	}
	for i, s := range RightSnaps() {
		s.Index = 0
		list["snapshot of Index 0, "+strconv.Itoa(i)] = api.Msg{Kind: api.MsgInstall, Term: 1, Snap: s}
	}
	return list
}

// OverfullMsgs are messages of which all is right, but that there is something that their kind has not: in their bytes that is not to be seen.
func OverfullMsgs() []api.Msg {
	var list []api.Msg
	for _, m := range RightMsgs() {
		for _, more := range extras() {
			with := m
			if more(&with); !SameMsg(with, m) {
				list = append(list, with)
			}
		}
	}
	return list
}

// extras give a message something, if its kind has it not.
func extras() []func(m *api.Msg) {
	var list []func(m *api.Msg)
	add := func(change func(m *api.Msg), unless ...api.MsgKind) {
		list = append(list, func(m *api.Msg) {
			if !slices.Contains(unless, m.Kind) {
				change(m)
			}
		})
	}
	for _, n := range []uint64{1, 1 << 32, most} {
		add(func(m *api.Msg) { m.Index = n }, api.MsgAsk, api.MsgAppend, api.MsgAppended)
		add(func(m *api.Msg) { m.LogTerm = n }, api.MsgAsk, api.MsgAppend)
		add(func(m *api.Msg) { m.Commit = n }, api.MsgAppend)
		add(func(m *api.Msg) { m.Snap.Index = n }, api.MsgInstall)
		add(func(m *api.Msg) { m.Snap.Term = n }, api.MsgInstall)
	}
	add(func(m *api.Msg) { m.Ok = true }, api.MsgVoted, api.MsgAppended)
	add(func(m *api.Msg) { m.Entries = Batch(m.Index, 1) }, api.MsgAppend)
	add(func(m *api.Msg) { m.Entries = []api.Entry{{}} }, api.MsgAppend)
	add(func(m *api.Msg) { m.Snap = SomeSnap() }, api.MsgInstall)
	add(func(m *api.Msg) { m.Snap.Members = []int{1} }, api.MsgInstall)
	add(func(m *api.Msg) { m.Snap.Members = []int{0} }, api.MsgInstall)
	add(func(m *api.Msg) { m.Snap.Data = "\x00" }, api.MsgInstall)
	return list
}

// SameMsg takes nil and empty lists for alike.
func SameMsg(a, b api.Msg) bool {
	return a.Kind == b.Kind && a.Term == b.Term && a.Index == b.Index && a.LogTerm == b.LogTerm && a.Commit == b.Commit && a.Ok == b.Ok && SameEntries(a.Entries, b.Entries) && SameSnap(a.Snap, b.Snap)
}

func CloneMsg(m api.Msg) api.Msg {
	m.Entries, m.Snap = CloneEntries(m.Entries), CloneSnap(m.Snap)
	return m
}

// BriefMsg is few words on m, however much is there.
func BriefMsg(m api.Msg) string {
	numbers := ""
	for _, n := range []uint64{uint64(m.Kind), m.Term, m.Index, m.LogTerm, m.Commit} {
		numbers += strconv.FormatUint(n, 10) + " "
	}
	return "{" + numbers + strconv.FormatBool(m.Ok) + ", " + BriefEntries(m.Entries) + ", " + BriefSnap(m.Snap) + "}"
}
