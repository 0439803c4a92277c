package quorum_test

import (
	"math"
	"math/bits"
	"math/rand"
	"slices"

	"gaffer/api"
	"gaffer/logtest"
)

const (
	most = math.MaxUint64
	sets = 1 << api.MaxReplicas // a set is a bit for each replica: of one with the Id 1 the first one
)

// idsOf are the replicas of a set, rising: right members, unless the set is 0.
func idsOf(set int) []int {
	var l []int
	for i := range api.MaxReplicas {
		if set>>i&1 == 1 {
			l = append(l, i+1)
		}
	}
	return l
}

func many(set int) int { return bits.OnesCount(uint(set)) }

func isMost(members, some int) bool { return many(members&some) > many(members)-many(members&some) }

// mixed are those of l in another order, some of them twice, or more often.
func mixed(draw *rand.Rand, l []int) []int {
	l = slices.Clone(l)
	for range draw.Intn(3) {
		if len(l) > 0 {
			l = append(l, l[draw.Intn(len(l))])
		}
	}
	draw.Shuffle(len(l), func(i, j int) { l[i], l[j] = l[j], l[i] })
	return l
}

func wrongs() [][]int { return append(logtest.WrongMembers(), nil, []int{}) }

// peers are of their Matches, one Id after the other from 1 on; Next is no matter, and so are others behind them of the same Ids.
func peers(matches ...uint64) []api.Peer {
	var l []api.Peer
	for i, match := range matches {
		l = append(l, api.Peer{Id: i + 1, Match: match})
	}
	return l
}

// matchOf is as the chapter's words have it.
func matchOf(l []api.Peer, id int) uint64 {
	for _, p := range l {
		if p.Id == id {
			return p.Match
		}
	}
	return 0
}

// haves are those of the members that have all up to n.
func haves(members []int, id int, end uint64, l []api.Peer, n uint64) []int {
	return slices.DeleteFunc(slices.Clone(members), func(m int) bool {
		if m == id {
			return n > end
		}
		return n > matchOf(l, m)
	})
}

// settled is the greatest of all numbers that may be one, tried from the top.
func settled(members []int, id int, end uint64, l []api.Peer) uint64 {
	all := []uint64{end}
	for _, p := range l {
		all = append(all, p.Match)
	}
	slices.Sort(all)
	for _, n := range slices.Backward(all) {
		if 2*len(haves(members, id, end, l, n)) > len(members) {
			return n
		}
	}
	return 0
}
