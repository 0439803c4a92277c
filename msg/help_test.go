package msg_test

import (
	"math"

	"gaffer/api"
	"gaffer/logtest"
	"gaffer/ordertest"
	"gaffer/pack"
)

const most = math.MaxUint64

// What the tests of all that has entries, or bytes, have.
var (
	lead       = logtest.Lead
	order      = logtest.Order
	members    = logtest.Members
	bulky      = logtest.Bulky
	someSnap   = logtest.SomeSnap
	ofEachKind = logtest.MsgsOfEachKind
	widest     = logtest.WidestMsgs
	rights     = logtest.RightMsgs
	wrongs     = logtest.WrongMsgs
	overfull   = logtest.OverfullMsgs
	same       = logtest.SameMsg
	clone      = logtest.CloneMsg
	brief      = logtest.BriefMsg
	broken     = ordertest.Broken
	turned     = ordertest.Turned
)

// bytesOf does what the chapter says of any message, right or not.
func bytesOf(m api.Msg) *ordertest.Bytes {
	b := &ordertest.Bytes{}
	b.Number(uint64(m.Kind))
	b.Number(m.Term)
	ok := uint64(0)
	if m.Ok {
		ok = 1
	}
	switch m.Kind {
	case api.MsgAsk:
		b.Number(m.Index)
		b.Number(m.LogTerm)
	case api.MsgVoted:
		b.Number(ok)
	case api.MsgAppend:
		b.Number(m.Index)
		b.Number(m.LogTerm)
		b.Number(m.Commit)
		b.Number(uint64(len(m.Entries)))
		for _, e := range m.Entries {
			b.Text(entryBytes(e))
		}
	case api.MsgAppended:
		b.Number(ok)
		b.Number(m.Index)
	case api.MsgInstall:
		b.Text(snapBytes(m.Snap))
	}
	return b
}

func entryBytes(e api.Entry) string {
	return pack.Number(e.Index) + pack.Number(e.Term) + pack.Number(uint64(e.Kind)) + pack.Text(e.Data) + memberBytes(e.Members)
}

func snapBytes(s api.Snap) string {
	return pack.Number(s.Index) + pack.Number(s.Term) + memberBytes(s.Members) + pack.Text(s.Data)
}

func memberBytes(l []int) string {
	s := pack.Number(uint64(len(l)))
	for _, m := range l {
		s += pack.Number(uint64(m))
	}
	return s
}

// packet is of any payload that has room in a frame.
func packet(payload string) string {
	s, why := pack.Frame(payload)
	if why != api.OK {
		panic("a payload that is too long")
	}
	return s
}
