package log_test

import (
	"math"
	"slices"
	"testing"

	"gaffer/api"
	"gaffer/log"
	"gaffer/logtest"
)

// calls are given a log's entries, and others: what each of them answers, of a log behind that Base.
func calls(base, baseTerm uint64) map[string]logtest.Call {
	of := func(given [][]api.Entry) api.Log {
		return api.Log{Base: base, BaseTerm: baseTerm, Entries: given[0]}
	}
	join := func(index, term uint64, from int) logtest.Call {
		return func(given [][]api.Entry) []api.Entry {
			l, _, _ := log.Join(of(given), index, term, given[1][min(from, len(given[1])):])
			return l.Entries
		}
	}
	trim := func(upto uint64) logtest.Call {
		return func(given [][]api.Entry) []api.Entry { l, _ := log.Trim(of(given), upto); return l.Entries }
	}
	from := func(index uint64, most int) logtest.Call {
		return func(given [][]api.Entry) []api.Entry { some, _ := log.From(of(given), index, most); return some }
	}
	who := func(upto uint64) logtest.Call {
		return func(given [][]api.Entry) []api.Entry {
			list, _ := log.Members(of(given), upto, given[1][1].Members)
			return []api.Entry{{Members: list}}
		}
	}
	return map[string]logtest.Call{
		"Check, End, Term and Newer": func(given [][]api.Entry) []api.Entry {
			log.Check(of(given))
			log.End(of(given))
			log.Term(of(given), 4)
			log.Newer(of(given), 4, 4)
			return nil
		},
		"Join at the end": join(7, 4, 5), "Join in the middle": join(5, 2, 3), "Join of all": join(2, 1, 0), "Join below the Base": join(1, 9, 5), "Join of none": join(7, 4, 99), "Join of what is none": join(5, 2, 1), "Join above the end": join(9, 4, 99),
		"Trim": trim(4), "Trim of none": trim(1), "Trim of all": trim(7), "Trim above": trim(8),
		"From": from(4, 2), "From the first": from(3, math.MaxInt), "From, none": from(3, 0), "From the Base": from(2, 9),
		"Members": who(5), "Members, the last": who(most), "Members, those handed in": who(3),
	}
}

// 14.4: an answer is new memory, and what is handed in is neither changed nor kept; room behind the lists' ends, too.
func TestNewMemory(t *testing.T) {
	other := slices.Concat(some().Entries, []api.Entry{members(8, 5, 4, 5), members(9, 5, 4, 5, 6)})
	parts := slices.Clone(other)
	parts[3].Term, parts[4].Term = 3, 3
	wrong := slices.Clone(some().Entries)
	slices.Reverse(wrong)
	for what, call := range calls(2, 1) {
		for which, lists := range map[string][2][]api.Entry{
			"goes on":       {some().Entries, other},
			"parts":         {some().Entries, parts},
			"no entries":    {nil, other},
			"not right":     {wrong, other},
			"others are no": {some().Entries, wrong},
		} {
			if shares := logtest.Shares(call, lists[0], lists[1]); shares != "" {
				t.Errorf("%s, %s: %s", what, which, shares)
			}
		}
	}
}

// 14.4: no two lists of an answer share memory, even if those that were handed in do.
func TestListsApart(t *testing.T) {
	one := []int{1, 2, 3, 4, 5, 6, 7}
	l := api.Log{Entries: []api.Entry{members(1, 1, one[:3]...), members(2, 1, one[1:4]...), members(3, 1, one...), members(4, 1, one[:3]...)}}
	for what, answers := range map[string]func() []api.Entry{
		"From": func() []api.Entry { some, _ := log.From(l, 1, 9); return some },
		"Trim": func() []api.Entry { m, _ := log.Trim(l, 1); return m.Entries },
		"Join": func() []api.Entry {
			m, _, _ := log.Join(l, 4, 1, []api.Entry{members(5, 1, one...), members(6, 1, one...)})
			return m.Entries
		},
		"Join of itself": func() []api.Entry { m, _, _ := log.Join(l, 0, 0, l.Entries); return m.Entries },
	} {
		if list := answers(); len(list) == 0 || !logtest.Apart(list) {
			t.Errorf("%s: two lists share memory", what)
		}
		if !slices.Equal(one, []int{1, 2, 3, 4, 5, 6, 7}) {
			t.Fatalf("%s: the answer shares memory with what was handed in", what)
		}
	}
}

// 14.4: a Join writes nothing behind the entries that stay, though there is room in what was handed in.
func TestRoomBehind(t *testing.T) {
	all := some().Entries
	l := api.Log{Base: 2, BaseTerm: 1, Entries: all[:2]}
	m, first, why := log.Join(l, 4, 2, others(4, 3))
	if first != 5 || why != api.OK || len(m.Entries) != 3 {
		t.Fatalf("%s, %d, error %d", brief(m), first, why)
	}
	if !sames(all, some().Entries) {
		t.Errorf("what was handed in is changed: %s", briefs(all))
	}
}
