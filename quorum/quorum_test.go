package quorum_test

import (
	"math"
	"math/rand"
	"testing"

	"gaffer/api"
	"gaffer/quorum"
)

// 15.1: Most: the chapter's examples, half of the members and one more, some in any order and twice, and who is no member.
func TestMost(t *testing.T) {
	five, seven := []int{1, 2, 4, 6, 7}, []int{1, 2, 3, 4, 5, 6, 7}
	for i, one := range []struct {
		members, some []int
		want          bool
	}{
		{[]int{1, 2, 3}, []int{1, 2}, true},
		{[]int{1, 2, 3, 4}, []int{1, 2}, false},
		{[]int{1, 2, 3, 4}, []int{1, 2, 4}, true},
		{[]int{1}, []int{1}, true},
		{[]int{1}, []int{2}, false},
		{[]int{1}, nil, false},
		{[]int{7}, []int{}, false},
		{[]int{7}, []int{7, 7, 7}, true},
		{[]int{1, 2}, []int{2}, false},
		{[]int{1, 2}, []int{2, 1}, true},
		{[]int{1, 2}, []int{1, 1, 1}, false},
		{[]int{1, 2, 3}, []int{3}, false},
		{[]int{1, 2, 3}, []int{3, 3, 3, 3}, false},
		{[]int{1, 2, 3}, []int{3, 1, 3}, true},
		{[]int{1, 2, 3}, []int{1, 4, 5, 6, 7}, false},
		{[]int{1, 2, 3}, []int{7, 2, 6, 1}, true},
		{[]int{1, 2, 3}, []int{1, 0, -1, 8, math.MaxInt, math.MinInt, 258}, false},
		{[]int{1, 2, 3}, []int{0, 2, 9, 3}, true},
		{five, []int{1, 2, 4}, true},
		{five, []int{7, 6}, false},
		{five, []int{7, 6, 5, 3}, false},
		{five, []int{7, 7, 6, 6}, false},
		{five, five, true},
		{seven, []int{1, 2, 3}, false},
		{seven, []int{5, 6, 7, 1}, true},
		{seven, []int{5, 6, 7, 5, 6, 7}, false},
		{seven[:6], []int{4, 5, 6}, false},
		{seven[:6], []int{4, 5, 6, 1}, true},
	} {
		if is := quorum.Most(one.members, one.some); is != one.want {
			t.Errorf("%d: %v of %v: %v", i, one.some, one.members, is)
		}
	}
}

// 15.1: Most of all members that there are, and all that may be some of them.
func TestMostOfAll(t *testing.T) {
	draw := rand.New(rand.NewSource(15))
	for members := 1; members < sets; members++ {
		for some := range sets {
			l := mixed(draw, idsOf(some))
			if is := quorum.Most(idsOf(members), l); is != isMost(members, some) {
				t.Errorf("%v of %v: %v", l, idsOf(members), is)
			}
		}
	}
}

// 15.1: members that are not right have no majority, and nothing is settled.
func TestWrongMembers(t *testing.T) {
	all := peers(9, 9, 9, 9, 9, 9, 9)
	for _, members := range wrongs() {
		for _, some := range [][]int{members, nil, {1, 2, 3, 4, 5, 6, 7}} {
			if quorum.Most(members, some) {
				t.Errorf("%v are a majority of %v", some, members)
			}
		}
		for id := range 9 {
			l := append(all, api.Peer{Id: -1, Match: 9}, api.Peer{Id: 0, Match: 9}, api.Peer{Id: 8, Match: 9})
			if n := quorum.Settled(members, id, 9, l); n != 0 {
				t.Errorf("of %v %d is settled", members, n)
			}
		}
	}
}

// 15.1: Settled: by the end and the Matches.
func TestSettled(t *testing.T) {
	two, three, four := []int{1, 2}, []int{1, 2, 3}, []int{1, 2, 3, 4}
	for what, one := range map[string]struct {
		members []int
		id      int
		end     uint64
		l       []api.Peer
		want    uint64
	}{
		"alone":                      {[]int{1}, 1, 9, nil, 9},
		"alone, the end 0":           {[]int{1}, 1, 0, peers(7), 0},
		"alone, the last end":        {[]int{5}, 5, most, nil, most},
		"two":                        {two, 1, 9, peers(0, 4), 4},
		"two, the other one ahead":   {two, 1, 3, peers(0, 4), 3},
		"two, the other one has 0":   {two, 1, 9, peers(9, 0), 0},
		"two, the other one is none": {two, 1, 9, peers(9), 0},
		"three":                      {three, 1, 9, peers(0, 4, 6), 6},
		"three, alike":               {three, 1, 9, peers(0, 5, 5), 5},
		"three, all alike":           {three, 1, 5, peers(0, 5, 5), 5},
		"three, one has 0":           {three, 1, 9, peers(0, 0, 6), 6},
		"three, both have 0":         {three, 1, 9, peers(0, 0, 0), 0},
		"three, the end 0":           {three, 1, 0, peers(0, 4, 6), 4},
		"three, the end between":     {three, 2, 5, peers(4, 0, 6), 5},
		"three, the end the least":   {three, 3, 1, peers(4, 6, 0), 4},
		"four":                       {four, 1, 9, peers(0, 4, 6, 8), 6},
		"four, the end the least":    {four, 4, 1, peers(4, 6, 8, 0), 4},
		"four, one is none":          {four, 1, 9, peers(0, 4, 6), 4},
		"seven":                      {[]int{1, 2, 3, 4, 5, 6, 7}, 7, 9, peers(1, 2, 3, 4, 5, 6), 4},
		"six":                        {[]int{1, 2, 3, 4, 5, 6}, 6, 9, peers(1, 2, 3, 4, 5), 3},
		"its own Match is no matter": {three, 1, 2, peers(9, 4, 1), 2},
		"nor is it there in a Match": {three, 1, 9, peers(0, 4, 6, 9, 9, 9, 9), 6},
		"not one of them":            {[]int{2, 3, 4}, 1, 9, peers(9, 4, 6, 2), 4},
		"not one of them, alone":     {[]int{2}, 1, 9, peers(9, 4), 4},
		"not one of them, of no one": {[]int{2, 3}, 1, 9, nil, 0},
		"twice, the first counts":    {three, 1, 9, append(peers(0, 4, 1), peers(0, 8, 8)...), 4},
		"twice, the first has 0":     {two, 1, 9, append(peers(0, 0), peers(0, 8, 8)...), 0},
		"in another order":           {four, 2, 9, []api.Peer{{Id: 4, Match: 8}, {Id: 1, Match: 4}, {Id: 3, Match: 6}}, 6},
		"Next is no matter":          {two, 1, 9, []api.Peer{{Id: 2, Next: 9, Match: 4}}, 4},
		"the greatest numbers":       {three, 1, most, peers(0, most, most-1), most},
		"above 32 bits":              {three, 1, 1<<32 + 1, peers(0, 1<<33, 5), 1<<32 + 1},
		"above 63 bits":              {three, 1, 1<<63 + 1, peers(0, 1, 1<<63), 1 << 63},
		"a member of another Id":     {[]int{1, 7}, 1, 9, peers(0, 4, 6), 0},
		"an Id of no replica":        {two, -1, 9, append(peers(3, 4), api.Peer{Id: -1, Match: 8}), 3},
	} {
		if n := quorum.Settled(one.members, one.id, one.end, one.l); n != one.want {
			t.Errorf("%s: %d, not %d", what, n, one.want)
		}
	}
}

// 15.1 and 15.5: what is settled of members that are drawn some have who are a majority; one more not.
func TestSettledOfMany(t *testing.T) {
	draw := rand.New(rand.NewSource(155))
	number := func() uint64 {
		if draw.Intn(9) == 0 {
			return most - uint64(draw.Intn(2))
		}
		return uint64(draw.Intn(6))
	}
	above := 0
	for range 30000 {
		members, id, end := idsOf(1+draw.Intn(sets-1)), 1+draw.Intn(api.MaxReplicas), number()
		var l []api.Peer
		for range draw.Intn(10) {
			l = append(l, api.Peer{Id: draw.Intn(9), Next: number(), Match: number()})
		}
		n := quorum.Settled(members, id, end, l)
		if want := settled(members, id, end, l); n != want {
			t.Fatalf("of %v, %d of %d, and %v: %d, not %d", members, end, id, l, n, want)
		}
		if !quorum.Most(members, haves(members, id, end, l, n)) || n < most && quorum.Most(members, haves(members, id, end, l, n+1)) {
			t.Fatalf("of %v, %d of %d, and %v: %d is not what a majority has", members, end, id, l, n)
		}
		if n > 0 {
			above++
		}
	}
	if above < 5000 {
		t.Errorf("only %d have settled something", above)
	}
}

// 15.2: Next: one more, one fewer, none, two, and one for another.
func TestNext(t *testing.T) {
	for i, one := range []struct {
		now, then []int
		want      api.Errno
	}{
		{[]int{1, 2, 3}, []int{1, 2, 3, 4}, api.OK},
		{[]int{2, 3, 4}, []int{1, 2, 3, 4}, api.OK},
		{[]int{1, 3}, []int{1, 2, 3}, api.OK},
		{[]int{1, 2, 3}, []int{1, 2}, api.OK},
		{[]int{1, 2, 3}, []int{2, 3}, api.OK},
		{[]int{1, 2, 3}, []int{1, 3}, api.OK},
		{[]int{1}, []int{1, 7}, api.OK},
		{[]int{1, 7}, []int{7}, api.OK},
		{[]int{1, 2, 3, 4, 5, 6}, []int{1, 2, 3, 4, 5, 6, 7}, api.OK},
		{[]int{1, 2, 3}, []int{1, 2, 3}, api.ErrRange},
		{[]int{1, 2, 3}, []int{1, 2, 4}, api.ErrRange},
		{[]int{1}, []int{2}, api.ErrRange},
		{[]int{1, 2, 3}, []int{1, 2, 3, 4, 5}, api.ErrRange},
		{[]int{1, 2, 3, 4, 5}, []int{1, 2, 3}, api.ErrRange},
		{[]int{1, 2, 3}, []int{1}, api.ErrRange},
		{[]int{1, 2}, []int{3}, api.ErrRange},
		{[]int{1}, []int{2, 3}, api.ErrRange},
		{[]int{1, 2}, []int{2, 3, 4}, api.ErrRange},
		{[]int{1, 2, 3, 4, 5, 6, 7}, []int{1}, api.ErrRange},
		{[]int{1, 2}, []int{3, 4, 5}, api.ErrRange}, // one more, but none of the same
		{[]int{1}, nil, api.ErrForm},
		{nil, []int{1}, api.ErrForm},
		{nil, nil, api.ErrForm},
		{[]int{1, 2}, []int{2, 1, 3}, api.ErrForm},
		{[]int{1, 2}, []int{1, 2, 2}, api.ErrForm},
		{[]int{1, 2}, []int{1, 2, 8}, api.ErrForm},
		{[]int{0, 1, 2}, []int{1, 2}, api.ErrForm},
		{[]int{2, 1}, []int{2, 1}, api.ErrForm},
	} {
		if why := quorum.Next(one.now, one.then); why != one.want {
			t.Errorf("%d: from %v to %v: error %d", i, one.now, one.then, why)
		}
	}
}

// 15.2: Next of all members that there are, and of some that are not right.
func TestNextOfAll(t *testing.T) {
	for now := 1; now < sets; now++ {
		for then := 1; then < sets; then++ {
			want := api.ErrRange
			if many(now^then) == 1 {
				want = api.OK
			}
			if why := quorum.Next(idsOf(now), idsOf(then)); why != want {
				t.Errorf("from %v to %v: error %d", idsOf(now), idsOf(then), why)
			}
		}
	}
	for _, wrong := range wrongs() {
		for _, other := range append(wrongs(), []int{1}, []int{1, 2}, []int{1, 2, 3, 4, 5, 6, 7}, wrong) {
			if there, back := quorum.Next(wrong, other), quorum.Next(other, wrong); there != api.ErrForm || back != api.ErrForm {
				t.Errorf("from %v to %v: errors %d, %d", wrong, other, there, back)
			}
		}
	}
}

// 15.4: two majorities of the same members, or of members of which the ones are next to the others, have someone in common.
func TestShared(t *testing.T) {
	var ids [sets][]int
	for set := range sets {
		ids[set] = idsOf(set)
	}
	majorities := func(members int) []int {
		var l []int
		for some := range sets {
			if some&^members == 0 && quorum.Most(ids[members], ids[some]) {
				l = append(l, some)
			}
		}
		return l
	}
	pairs := 0
	for now := 1; now < sets; now++ {
		for then := 1; then < sets; then++ {
			if now != then && quorum.Next(ids[now], ids[then]) != api.OK {
				continue
			}
			for _, a := range majorities(now) {
				for _, b := range majorities(then) {
					if pairs++; a&b == 0 {
						t.Errorf("%v of %v, %v of %v: none in common", ids[a], ids[now], ids[b], ids[then])
					}
				}
			}
		}
	}
	if pairs < 10000 {
		t.Errorf("only %d pairs", pairs)
	}
}
