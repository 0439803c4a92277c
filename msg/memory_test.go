package msg_test

import (
	"testing"

	"gaffer/api"
	"gaffer/logtest"
	"gaffer/msg"
)

// thereAndBack is of m with the entries, and with the Members of the snapshot, that are handed in.
func thereAndBack(m api.Msg) logtest.Call {
	return func(given [][]api.Entry) []api.Entry {
		m.Entries, m.Snap.Members = given[0], given[1][0].Members
		msg.Check(m)
		s, _ := msg.Encode(m)
		got, _ := msg.Decode(s)
		return append(got.Entries, api.Entry{Members: got.Snap.Members})
	}
}

// 13.2: what is decoded is new memory, and what is handed in is neither changed nor kept; room behind the lists' end, too.
func TestNewMemory(t *testing.T) {
	list := append(rights(), overfull()...)
	for _, m := range wrongs() {
		list = append(list, m)
	}
	for _, m := range list {
		if shares := logtest.Shares(thereAndBack(m), m.Entries, []api.Entry{{Members: m.Snap.Members}}); shares != "" {
			t.Errorf("%s: %s", brief(m), shares)
		}
	}
}

// 13.2: lists of the message that share memory are taken for what they are, and apart in what is decoded.
func TestListsApart(t *testing.T) {
	one := []int{1, 2, 3, 4, 5, 6, 7}
	m := api.Msg{Kind: api.MsgAppend, Term: 1, Entries: []api.Entry{members(1, 1, one[:3]...), members(2, 1, one...), members(3, 1, one[2:4]...), members(4, 1, one...)}}
	want := clone(m)
	s, _ := msg.Encode(m)
	got, why := msg.Decode(s)
	if !same(got, want) || why != api.OK || !logtest.Apart(got.Entries) || !same(m, want) {
		t.Errorf("%s, error %d: two lists share memory", brief(got), why)
	}
}

// P3: asked again, behind others, each tells the same; what is done with an answer is not seen in the next one.
func TestAskedAgain(t *testing.T) {
	for _, m := range rights() {
		s, _ := msg.Encode(m)
		first, _ := msg.Decode(s)
		kept := clone(first)
		again, _ := msg.Decode(s)
		for i := range again.Entries {
			again.Entries[i] = api.Entry{Data: "spoilt"}
		}
		for i := range again.Snap.Members {
			again.Snap.Members[i] = 99
		}
		third, why := msg.Decode(s)
		if s2, no := msg.Encode(m); s2 != s || !same(first, kept) || !same(third, kept) || why != api.OK || no != api.OK {
			t.Errorf("%s: another one: %s", brief(m), brief(third))
		}
	}
}
