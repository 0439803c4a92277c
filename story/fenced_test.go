package story

import (
	"testing"

	"gaffer/api"
	"gaffer/replicatest"
)

// 20.3, of what is told by nobody: as no right list has a bind that comes late and is told OK (20.5), what Fenced tells of one is asked from within, with what is told made by hand.
func TestLate(t *testing.T) {
	bind := func(index, client, seq, fence uint64) api.Entry {
		return replicatest.Order(index, 1, client, seq, api.Order{Kind: api.OrderBind, Name: "a", On: "n", Fence: fence})
	}
	lead := func(index, term uint64) api.Entry {
		return api.Entry{Index: index, Term: term, Kind: api.EntryLead}
	}
	ok, fence := api.Told{}, api.Told{Why: api.ErrFence}
	for what, one := range map[string]struct {
		l    []api.Entry
		told []api.Told
		want int
	}{
		"nothing":                      {nil, nil, 0},
		"no leader":                    {[]api.Entry{bind(1, 0, 0, 0)}, []api.Told{ok}, 1},
		"below":                        {[]api.Entry{lead(1, 3), bind(2, 0, 0, 2)}, []api.Told{ok, ok}, 1},
		"at":                           {[]api.Entry{lead(1, 3), bind(2, 0, 0, 3)}, []api.Told{ok, ok}, 2},
		"above":                        {[]api.Entry{lead(1, 3), bind(2, 0, 0, 4)}, []api.Told{ok, ok}, 2},
		"refused":                      {[]api.Entry{lead(1, 3), bind(2, 0, 0, 2)}, []api.Told{ok, fence}, 2},
		"a leader behind it":           {[]api.Entry{bind(1, 0, 0, 2), lead(2, 3)}, []api.Told{ok, ok}, 2},
		"the greatest of two":          {[]api.Entry{lead(1, 3), lead(2, 2), bind(3, 0, 0, 2)}, []api.Told{ok, ok, ok}, 2},
		"an order's Term is no matter": {[]api.Entry{{Index: 1, Term: 9, Kind: api.EntryOrder}, bind(2, 0, 0, 2)}, []api.Told{ok, ok}, 2},
		"the first of two":             {[]api.Entry{lead(1, 3), bind(2, 0, 0, 3), bind(3, 0, 0, 2), bind(4, 0, 0, 1)}, []api.Told{ok, ok, ok, ok}, 2},
		"of nobody, again":             {[]api.Entry{bind(1, 0, 0, 1), lead(2, 3), bind(3, 0, 0, 1)}, []api.Told{ok, ok, ok}, 2},
		"a client's":                   {[]api.Entry{lead(1, 3), bind(2, 1, 1, 2)}, []api.Told{ok, ok}, 1},
		"a client's, again":            {[]api.Entry{bind(1, 1, 1, 2), lead(2, 3), bind(3, 1, 1, 2)}, []api.Told{ok, ok, ok}, 3},
		"the number of another client": {[]api.Entry{bind(1, 2, 1, 2), lead(2, 3), bind(3, 1, 1, 2)}, []api.Told{ok, ok, ok}, 2},
		"another number":               {[]api.Entry{bind(1, 1, 2, 2), lead(2, 3), bind(3, 1, 1, 2)}, []api.Told{ok, ok, ok}, 2},
		"no bind":                      {[]api.Entry{lead(1, 3), replicatest.Order(2, 1, 0, 0, api.Order{Kind: api.OrderFree, Name: "a"})}, []api.Told{ok, ok}, 2},
		"no command":                   {[]api.Entry{lead(1, 3), {Index: 2, Kind: api.EntryOrder, Data: "?"}}, []api.Told{ok, ok}, 2},
	} {
		want := api.OK
		if one.want < len(one.l) {
			want = api.ErrFence
		}
		if got, why := fenced(one.l, one.told); got != one.want || why != want {
			t.Errorf("%s: %d, error %d; not %d, error %d", what, got, why, one.want, want)
		}
	}
}
