package core_test

import (
	"math"
	"testing"

	"gaffer/api"
	"gaffer/coretest"
	"gaffer/logtest"
)

// 16.3: ErrRange of the draw, and of who sent it, ahead of ErrForm of the message.
func TestTakeErrors(t *testing.T) {
	right, wrong, high := voted(4, true), voted(0, true), voted(api.MaxNumber+1, true)
	for what, r := range map[string]api.Raft{"follows": following(), "stands": standing(), "leads": leading()} {
		for _, from := range []int{0, -1, 8, 9, 2, 256 + 1, 1<<32 + 1, math.MinInt, math.MaxInt} { // 2 is the replica itself
			for _, m := range []api.Msg{right, wrong, high, {}} {
				refused(t, what+", from nobody", take(t, what, r, from, m, 0), api.ErrRange)
			}
		}
		for _, draw := range []int{-1, -64, math.MinInt} {
			for _, m := range []api.Msg{right, wrong, high, {}} {
				refused(t, what+", draw", take(t, what, r, 1, m, draw), api.ErrRange)
				refused(t, what+", draw, from nobody", take(t, what, r, 0, m, draw), api.ErrRange)
			}
		}
		for _, m := range logtest.WrongMsgs() {
			refused(t, what+", no message", take(t, what, r, 1, m, 0), api.ErrForm)
		}
		for _, m := range logtest.MsgsOfEachKind() {
			for _, term := range []uint64{api.MaxNumber + 1, 1 << 63, most} {
				m.Term = term
				refused(t, what+", a Term too high", take(t, what, r, 1, m, 0), api.ErrForm)
			}
		}
	}
	for _, m := range logtest.OverfullMsgs() {
		refused(t, "overfull", take(t, "overfull", following(), 1, m, 0), api.ErrForm)
	}
}

// 16.3: all right messages, and replicas at all edges, held against the model: of a lower, the same and a higher Term.
func TestTakeOfAll(t *testing.T) {
	t.Parallel()
	many := 0
	for what, r := range coretest.Rights() {
		if len(r.Log.Entries) > 2*api.MaxOpen {
			continue // long logs take their time, and have no edges of their own
		}
		for i, m := range messages(r) {
			for _, term := range []uint64{m.Term, r.Term - 1, r.Term, r.Term + 1} {
				if m.Term = term; term == 0 || term > api.MaxNumber {
					continue
				}
				from := 1 + (i+many)%api.MaxReplicas
				got := take(t, what, r, from, m, many)
				if !matches(t, what+", "+logtest.BriefMsg(m), r, got, takes(r, from, m, many)) {
					return
				}
				many++
			}
		}
	}
	if many < 10000 {
		t.Errorf("only %d", many)
	}
}

// messages are of each kind, about the Commit, the Base and the end of r.
func messages(r api.Raft) []api.Msg {
	l := logtest.MsgsOfEachKind()
	m := of(r)
	for _, index := range []uint64{0, r.Log.Base, r.Log.Base + 1, r.Commit, r.Commit + 1, m.end(), m.end() + 1, most} {
		term := m.termAt(min(max(index, r.Log.Base), m.end()))
		l = append(l, ask(1, index, term), appended(1, true, index), appended(1, false, index), appends(1, index, term, m.end()), appends(1, index, term+1, m.end()))
		if index < most-1 {
			l = append(l, appends(1, index, term, index+1, order(index+1, m.termAt(m.end()), "x"), order(index+2, m.termAt(m.end())+1, "y")))
		}
		if index > 0 {
			l = append(l, install(1, snapOf(index, term)), install(1, snapOf(index, term+1)))
		}
	}
	return append(l, voted(1, true), voted(1, false))
}
