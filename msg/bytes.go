package msg

import (
	"gaffer/api"
	"gaffer/parts"
	"gaffer/snap"
	"gaffer/wal"
)

// maker makes messages' parts, of right ones; taker takes them, of right ones or not.
type maker struct{ parts.Maker }
type taker struct{ parts.Taker }

func (k *maker) msg(m api.Msg) {
	k.Number(uint64(m.Kind))
	k.Number(m.Term)
	switch m.Kind { // what it has, and nothing else
	case api.MsgAsk:
		k.Number(m.Index)
		k.Number(m.LogTerm)
	case api.MsgVoted:
		k.yes(m.Ok)
	case api.MsgAppend:
		k.Number(m.Index)
		k.Number(m.LogTerm)
		k.Number(m.Commit)
		k.Times(len(m.Entries), func(at int) { k.entry(m.Entries[at]) })
	case api.MsgAppended:
		k.yes(m.Ok)
		k.Number(m.Index)
	case api.MsgInstall:
		k.snap(m.Snap)
	}
}

// msg takes just as much, by the Kind that is taken first.
func (t *taker) msg() api.Msg {
	var m api.Msg
	m.Kind = api.MsgKind(t.Upto(uint64(api.MsgCount)))
	m.Term = t.Number()
	switch m.Kind {
	case api.MsgAsk:
		m.Index = t.Number()
		m.LogTerm = t.Number()
	case api.MsgVoted:
		m.Ok = t.yes()
	case api.MsgAppend:
		m.Index = t.Number()
		m.LogTerm = t.Number()
		m.Commit = t.Number()
		t.Times(api.MaxBatch, func() { m.Entries = append(m.Entries, t.entry()) })
	case api.MsgAppended:
		m.Ok = t.yes()
		m.Index = t.Number()
	case api.MsgInstall:
		m.Snap = t.snap()
	}
	return m
}

func (k *maker) yes(ok bool) {
	if ok {
		k.Number(1)
	} else {
		k.Number(0)
	}
}

func (t *taker) yes() bool { return t.Upto(1) == 1 }

func (k *maker) entry(e api.Entry) {
	s, _ := wal.Encode(e) // has no error to tell: it is right
	k.Text(s)
}

// entry is a zero one, of which no append is right, if the text is none's; likewise snap.
func (t *taker) entry() api.Entry {
	e, _ := wal.Decode(t.Text())
	return e
}

func (k *maker) snap(s api.Snap) {
	b, _ := snap.Encode(s) // likewise
	k.Text(b)
}

func (t *taker) snap() api.Snap {
	s, _ := snap.Decode(t.Text())
	return s
}
