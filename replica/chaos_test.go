package replica_test

import (
	"slices"
	"testing"

	"gaffer/api"
	"gaffer/net"
	"gaffer/sched"
)

// leader is one that leads, mostly, if there is any.
func (g *group) leader(other int) int {
	for i, m := range g.members {
		if m.up && m.x.Raft.Role == api.RoleLead && g.d.Intn(4) > 0 {
			return i + 1
		}
	}
	return other
}

// chaos is a step of any kind; changes are those of members.
func (g *group) chaos(changes bool) {
	g.t.Helper()
	id := 1 + g.d.Intn(len(g.members))
	way := len(g.net.Packets)
	switch n := g.d.Intn(1000); {
	case n < 600 && way > 0:
		at := g.d.Intn(min(way, 8)) // the first ones, mostly
		if g.d.Intn(5) == 0 {
			at = g.d.Intn(way)
		}
		g.give(at, g.d.Intn(8) == 0)
	case n < 620 && way > 0, way > 90:
		g.net, _, _ = net.Give(g.net, g.d.Intn(way))
	case n < 780:
		for range g.d.Intn(12) {
			g.tick(id)
		}
	case n < 930:
		for range 1 + g.d.Intn(3) {
			g.call(g.leader(id))
		}
	case n < 950 && changes:
		g.change(g.leader(id))
	case n < 960:
		if m := &g.members[id-1]; m.up {
			m.x.Disk.Fuse = g.d.Intn(20)
		}
	case n < 968:
		g.fall(id)
	case n < 978:
		g.apart = [][]int{nil, {id}, {g.leader(id)}}[g.d.Intn(3)]
	default:
		g.rise(id)
	}
}

// 17.5 to 17.7: groups whose packets come late, twice, in another order or never, and whose power goes at any change: each is right, or has fallen; started again it stands by what it sent; and each state is what one list makes of nothing.
func TestGroups(t *testing.T) {
	t.Parallel()
	seen := map[string]int{}
	for seed := range int64(80) {
		n := 1 + int(seed)%5
		first := []int{1, 2, 3, 4, 5}[:min(n, 2+int(seed/10)%4)]
		g := newGroup(t, seed, n, first...)
		for range 2500 {
			g.chaos(seed%2 == 1)
		}
		for what, many := range g.seen {
			seen[what] += many
		}
		seen["terms that somebody led in"] += len(g.leaders)
		seen["entries that are settled"] += len(g.settled)
		for _, l := range g.states {
			seen["binds"] += len(l.Book.Binds)
		}
	}
	for what, least := range map[string]int{
		"terms that somebody led in": 300, "entries that are settled": 4000, "binds": 20000, "answers": 3000, "trimmed": 200, "installed": 7, "shorter": 5,
		"risen": 800, "fallen in a step": 400, "fallen in a start": 40, "error 0": 150000, "error 11": 1000, "error 16": 10000, "error 1": 20, "error 10": 10,
	} {
		if seen[what] < least {
			t.Errorf("%s: only %d", what, seen[what])
		}
	}
}

// As a whole (P10): when all goes well again, somebody leads, all have done the same, and no task that waits can be anywhere.
func TestGroupsCalm(t *testing.T) {
	t.Parallel()
	for seed := range int64(20) {
		n := 1 + int(seed)%5
		g := newGroup(t, 1000+seed, n, []int{1, 2, 3, 4, 5}[:n]...)
		for range 800 {
			g.chaos(false)
		}
		g.apart = nil
		for i := range g.members {
			g.members[i].x.Disk.Fuse = -1
			g.fall(i + 1)
			for !g.members[i].up {
				g.rise(i + 1)
			}
		}
		rounds := 0
		for ; rounds < 400 && !g.agreed(); rounds++ {
			for many := len(g.net.Packets); many > 0; many-- {
				g.give(0, false)
			}
			for i := range g.members {
				g.tick(i + 1)
			}
		}
		if rounds == 400 {
			t.Errorf("seed %d: %d replicas do not agree: %s", seed, n, brief(g.members[0].x))
		}
	}
}

// agreed tells whether one leads whom all follow, all have done all that it has, and no task that waits can be anywhere.
func (g *group) agreed() bool {
	lead := slices.IndexFunc(g.members, func(m member) bool { return m.x.Raft.Role == api.RoleLead })
	if lead < 0 {
		return false
	}
	leader := g.members[lead].x
	for _, m := range g.members {
		if r := m.x.Raft; r.Term != leader.Raft.Term || r.Leader != lead+1 || m.x.Done != endOf(leader.Raft.Log) {
			return false
		}
	}
	quiet, _ := sched.Quiet(leader.Ledger.Book)
	return quiet
}
