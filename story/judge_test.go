package story_test

import (
	"testing"

	"gaffer/api"
)

// goes is of events that go with l, all of them.
func goes(t *testing.T, what string, l []api.Entry, events ...api.Event) {
	t.Helper()
	judges(t, what, l, events, answer{N: len(events)})
}

// goesNot is of events that do up to that place.
func goesNot(t *testing.T, what string, l []api.Entry, at int, events ...api.Event) {
	t.Helper()
	judges(t, what, l, events, answer{N: at, Why: api.ErrOrder})
	goes(t, what+", ahead of that", l, events[:at]...)
}

func textTold(client, seq uint64, text string) api.Event {
	return api.Event{Client: client, Seq: seq, Told: api.Told{Text: text}}
}

// 20.2: what goes with a list: nothing, what was never called or told, and what was called and told as it stands there.
func TestGoes(t *testing.T) {
	goes(t, "nothing", nil)
	goes(t, "nothing of some", some())
	goes(t, "calls that stand nowhere", nil, call(1, 1), call(1, 2), call(1, 1), call(0, 0))
	goes(t, "all in order", some(), call(1, 1), told(1, 1, api.OK), call(2, 1), told(2, 1, api.OK), call(1, 2), told(1, 2, api.ErrTwice), call(2, 7), textTold(2, 7, "n"))
	goes(t, "all called first", some(), call(2, 7), call(1, 2), call(2, 1), call(1, 1), textTold(2, 7, "n"), told(1, 2, api.ErrTwice), told(1, 1, api.OK), told(2, 1, api.OK))
	goes(t, "told twice", some(), call(1, 1), told(1, 1, api.OK), told(1, 1, api.OK))
	goes(t, "told the same, then of long ago", some(), call(1, 1), call(2, 7), told(1, 1, api.OK), told(1, 1, api.ErrStale), told(1, 1, api.OK), textTold(2, 7, "n"))
	goes(t, "told of long ago alone", some(), call(2, 1), told(2, 1, api.ErrStale))
	goes(t, "one that stands nowhere, behind an answer", some(), call(2, 7), textTold(2, 7, "n"), call(2, 8), call(9, 9))
	goes(t, "a call's Told is no matter", some(), api.Event{Call: true, Client: 1, Seq: 1, Told: api.Told{Why: api.ErrGap, Text: "x"}}, told(1, 1, api.OK))
}

// 20.2: an event that is no Call: no Call of its command is ahead of it.
func TestNoCall(t *testing.T) {
	goesNot(t, "alone", some(), 0, told(1, 1, api.OK))
	goesNot(t, "another number's call", some(), 1, call(1, 2), told(1, 1, api.OK))
	goesNot(t, "another client's call", some(), 1, call(2, 1), told(1, 1, api.OK))
	goesNot(t, "the other way round", some(), 1, call(1, 2), told(2, 1, api.OK))
	goesNot(t, "called behind it", some(), 2, call(1, 1), told(1, 1, api.OK), told(2, 1, api.OK), call(2, 1))
	goesNot(t, "numbers alike in their last 32 bits", some(), 1, call(1<<32+1, 1), told(1, 1, api.OK))
	goesNot(t, "of nobody", some(), 0, told(0, 0, api.OK))
}

// 20.2: an event that is no Call: its command stands nowhere, or is told something else wherever it stands.
func TestSettledNowhere(t *testing.T) {
	goesNot(t, "stands nowhere", some(), 1, call(1, 3), told(1, 3, api.OK))
	goesNot(t, "nothing stands", nil, 1, call(1, 1), told(1, 1, api.OK))
	goesNot(t, "another error", some(), 1, call(1, 2), told(1, 2, api.OK))
	goesNot(t, "another text", some(), 1, call(2, 7), textTold(2, 7, "m"))
	goesNot(t, "no text", some(), 1, call(2, 7), told(2, 7, api.OK))
	goesNot(t, "a text beside an error", some(), 1, call(1, 2), api.Event{Client: 1, Seq: 2, Told: api.Told{Why: api.ErrTwice, Text: "n"}})
	goesNot(t, "what another command is told", some(), 3, call(2, 7), call(1, 2), textTold(2, 7, "n"), textTold(1, 2, "n"))
	goesNot(t, "what another one of that client is told", some(), 2, call(1, 1), call(1, 2), told(1, 2, api.OK))
	goesNot(t, "of long ago, but it is the last", some(), 1, call(2, 7), told(2, 7, api.ErrStale))
	goesNot(t, "an error that there is not", some(), 1, call(1, 1), told(1, 1, -1))
	goesNot(t, "no command's bytes", some(), 1, call(0, 1), told(0, 1, api.ErrForm))
	goesNot(t, "a leader's entry", some(), 1, call(9, 0), told(9, 0, api.OK))
}

// 20.2: a Call, the first one of its command, behind an answer: it must stand behind where that is settled, and all others.
func TestCalledBehind(t *testing.T) {
	goesNot(t, "it stands ahead", some(), 2, call(2, 1), told(2, 1, api.OK), call(1, 1))
	goesNot(t, "far ahead", some(), 2, call(2, 7), textTold(2, 7, "n"), call(1, 1))
	goesNot(t, "another one of that client", some(), 2, call(1, 2), told(1, 2, api.ErrTwice), call(1, 1))
	goesNot(t, "ahead of one of two answers", some(), 4, call(1, 1), call(2, 7), textTold(2, 7, "n"), told(1, 1, api.OK), call(1, 2))
	goesNot(t, "ahead of the other one", some(), 4, call(1, 1), call(2, 7), told(1, 1, api.OK), textTold(2, 7, "n"), call(1, 2))
	goesNot(t, "ahead at the first of its places, behind at the last", some(), 2, call(2, 7), textTold(2, 7, "n"), call(2, 1))
	goesNot(t, "told of long ago it is settled there", some(), 2, call(1, 1), told(1, 1, api.ErrStale), call(2, 7))
	goes(t, "told the same it is settled at the first", some(), call(2, 1), told(2, 1, api.OK), call(2, 7), call(1, 2))
	goes(t, "settled at the first of the places at which it is told so", row(by(1, 1, look("a")), by(2, 1, look("a")), by(1, 1, look("a"))), call(1, 1), told(1, 1, api.ErrNone), call(2, 1), told(2, 1, api.ErrNone))
	goes(t, "called again behind its answer", some(), call(1, 1), told(1, 1, api.OK), call(1, 1), told(1, 1, api.OK))
	goes(t, "called again behind all", some(), call(1, 1), call(2, 7), textTold(2, 7, "n"), call(1, 1), call(1, 1))
	goes(t, "called ahead of the answer", some(), call(1, 1), call(2, 7), textTold(2, 7, "n"), told(1, 1, api.OK))
	goes(t, "what stands ahead is never told", some(), call(2, 1), told(2, 1, api.OK), call(1, 2), call(2, 7))
}

// 20.2: one that goes not is the first one, whatever comes behind it.
func TestFirstOfSeveral(t *testing.T) {
	goesNot(t, "all wrong", some(), 0, told(9, 9, api.OK), told(1, 1, api.ErrGap), told(1, 1, api.OK))
	goesNot(t, "a wrong answer, then a wrong call", some(), 2, call(2, 7), textTold(2, 7, "n"), textTold(1, 1, "n"), call(1, 1))
	goesNot(t, "a wrong call, then a wrong answer", some(), 2, call(2, 7), textTold(2, 7, "n"), call(1, 1), textTold(1, 1, "n"))
}

// 20.2, of Client 0: its commands are all called alike, and each is done.
func TestNobody(t *testing.T) {
	l := row(by(0, 0, node("n", 5)), by(0, 0, look("a")), by(1, 1, task("a", 1)), by(0, 0, bind("a", "n", 0)), by(1, 2, look("a")), by(0, 0, look("a")))
	goes(t, "told each", l, call(0, 0), told(0, 0, api.OK), told(0, 0, api.ErrNone), textTold(0, 0, "n"))
	goesNot(t, "told what none is", l, 1, call(0, 0), told(0, 0, api.ErrTwice))
	goesNot(t, "of another number", l, 1, call(0, 1), told(0, 1, api.OK))
	goesNot(t, "behind the last", l, 2, call(0, 0), textTold(0, 0, "n"), call(1, 2))
	goes(t, "behind one", l, call(0, 0), told(0, 0, api.ErrNone), call(1, 1), call(1, 2))
	goesNot(t, "called first behind an answer", l, 2, call(1, 1), told(1, 1, api.OK), call(0, 0))
}

// The chapter's example.
func TestExample(t *testing.T) {
	l := row(by(1, 1, look("a")), by(2, 1, look("a")))
	goesNot(t, "example", l, 2, call(2, 1), told(2, 1, api.ErrNone), call(1, 1))
	goes(t, "in the list's order", l, call(1, 1), told(1, 1, api.ErrNone), call(2, 1))
}
