package logtest

import (
	"slices"
	"strconv"
	"strings"

	"gaffer/api"
)

// RightSnaps are the one of nothing, and others at all edges.
func RightSnaps() []api.Snap {
	list := []api.Snap{{}, {Members: []int{}}}
	for _, n := range []uint64{0, 1, 255, 256, 65536, api.MaxNumber, api.MaxNumber + 1, most} {
		list = append(list, api.Snap{Index: n, Members: []int{1}}, api.Snap{Term: n, Members: []int{7}}, api.Snap{Index: n, Term: most - n, Members: []int{2, 5}, Data: "state"})
	}
	for _, members := range [][]int{{1}, {4}, {7}, {1, 7}, {1, 2, 3}, {2, 3, 5, 7}, {1, 2, 3, 4, 5, 6, 7}} {
		list = append(list, api.Snap{Index: 16, Term: 2, Members: members, Data: "state"}, api.Snap{Members: members})
	}
	for _, size := range []int{1, 255, 256, 4096, 4097, 65535 - 1024, snapMax} {
		list = append(list, api.Snap{Index: 16, Term: 2, Members: []int{1, 3}, Data: strings.Repeat("\x00", size)}, api.Snap{Index: most, Term: most, Members: []int{1, 2, 3, 4, 5, 6, 7}, Data: strings.Repeat("z", size)})
	}
	return list
}

// WrongSnaps are not right.
func WrongSnaps() []api.Snap {
	list := []api.Snap{{Index: 1}, {Index: most}, {Term: 1}, {Term: most}, {Data: "x"}, {Data: "\x00"}, {Index: 1, Members: []int{}}, {Index: 1, Term: 1, Data: "state"}, {Data: strings.Repeat("x", snapMax+1)}}
	for _, members := range WrongMembers() {
		list = append(list, api.Snap{Members: members}, api.Snap{Index: 16, Term: 2, Members: members, Data: "state"})
	}
	for _, size := range []int{snapMax + 1, snapMax + 2, api.MaxData - 1, api.MaxData, api.MaxData + 1, 2 * api.MaxData} {
		list = append(list, api.Snap{Index: 16, Term: 2, Members: []int{1, 3}, Data: strings.Repeat("x", size)}, api.Snap{Members: []int{1}, Data: strings.Repeat("x", size)})
	}
	return list
}

func SameSnap(a, b api.Snap) bool {
	return a.Index == b.Index && a.Term == b.Term && slices.Equal(a.Members, b.Members) && a.Data == b.Data
}

func CloneSnap(s api.Snap) api.Snap {
	s.Members = slices.Clone(s.Members)
	return s
}

// BriefSnap is few words on s, however much is there.
func BriefSnap(s api.Snap) string {
	return "{of " + strconv.FormatUint(s.Index, 10) + " " + strconv.FormatUint(s.Term, 10) + BriefMembers(s.Members) + " " + strconv.Quote(s.Data[:min(9, len(s.Data))]) + ":" + strconv.Itoa(len(s.Data)) + "}"
}

func BriefMembers(members []int) string {
	s := ""
	for _, m := range members[:min(8, len(members))] {
		s += " " + strconv.Itoa(m)
	}
	return s
}
