package quorum_test

import (
	"slices"
	"testing"

	"gaffer/api"
	"gaffer/quorum"
)

// roomy is l with room behind its end, in which something stands; whole is a clone with that.
func roomy[T any](l []T, more T) []T {
	return append(slices.Clone(l), more)[:len(l)]
}

func whole[T any](l []T) []T { return slices.Clone(l[:len(l)+1]) }

// 15.3: what is handed in is neither changed nor kept: not what stands behind the lists' ends, either; asked anew, of the same memory with something else in it, all is told of that.
func TestHandedIn(t *testing.T) {
	for _, lists := range [][2][]int{{{1, 2, 3}, {3, 1, 3}}, {{1, 2, 3, 4}, {1, 2}}, {{1, 2}, {1, 2, 3}}, {{2, 1}, {1, 2}}, {{4}, {3}}} {
		members, some := roomy(lists[0], 77), roomy(lists[1], 77)
		l := roomy([]api.Peer{{Id: 3, Match: 4}, {Id: 1, Match: 6}, {Id: 2, Match: 5}, {Id: 1, Match: 9}}, api.Peer{Id: 4, Match: 7})
		wants := [][]int{whole(members), whole(some)}
		peers := whole(l)
		for range 2 {
			quorum.Most(members, some)
			quorum.Settled(members, 1, 9, l)
			quorum.Next(members, some)
		}
		if !slices.Equal(whole(members), wants[0]) || !slices.Equal(whole(some), wants[1]) || !slices.Equal(whole(l), peers) {
			t.Errorf("%v, %v: what was handed in is changed", lists[0], lists[1])
		}
	}
	members, some, l := []int{1, 2, 3}, []int{1, 2}, peers(0, 4, 6)
	if !quorum.Most(members, some) || quorum.Settled(members, 1, 9, l) != 6 || quorum.Next(members, some) != api.OK {
		t.Error("at first it is told otherwise")
	}
	members[0], some[1], l[2].Match = 2, 4, 5
	if quorum.Most(members, some) || quorum.Settled(members, 1, 9, l) != 0 || quorum.Next(members, some) != api.ErrForm {
		t.Error("of members that are not right any more it is told otherwise")
	}
	members[0], members[1] = 1, 3
	members = members[:2]
	if quorum.Most(members, some) || quorum.Settled(members, 1, 9, l) != 5 || quorum.Next(members, some) != api.ErrRange {
		t.Error("of other members it is told otherwise")
	}
}
