package ledger

import (
	"cmp"
	"slices"
	"sort"

	"gaffer/api"
	"gaffer/order"
)

func rightClients(l []api.Client) bool {
	last := uint64(0) // no client's, so the first one's is above it
	wrong := func(c api.Client) bool {
		_, why := order.EncodeTold(c.Told)
		falls := c.Id <= last
		last = c.Id
		return falls || why != api.OK
	}
	return len(l) <= api.MaxClients && !slices.ContainsFunc(l, wrong)
}

// search is for one of the clients, which rise by Id.
type search struct {
	clients []api.Client
	id      uint64
}

func (s search) against(at int) int { return cmp.Compare(s.id, s.clients[at].Id) }

// find tells the place at which the client of that Id is, or would be.
func find(l []api.Client, id uint64) (int, bool) {
	return sort.Find(len(l), search{l, id}.against)
}
