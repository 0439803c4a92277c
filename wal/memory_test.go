package wal_test

import (
	"slices"
	"testing"

	"gaffer/api"
	"gaffer/disktest"
	"gaffer/wal"
)

func spoilEntries(l []api.Entry) {
	l = l[:cap(l)]
	for i := range l {
		spoilMembers(l[i].Members)
		l[i] = api.Entry{Index: 99, Data: "spoilt"}
	}
}

func spoilMembers(l []int) {
	l = l[:cap(l)]
	for i := range l {
		l[i] = 99
	}
}

// 3.5, of the disk: whatever is written into what was answered, what was handed in stays as it was, and the other way round; room behind its end, too.
func TestNewMemory(t *testing.T) {
	down := cutUp(1, 4, 1)
	down.Down = true
	calls := map[string]change{
		"Open": opens, "Append": appends(some(6, 6)...), "Append of none": appends(), "Append of a wrong one": appends(lead(0)), "Append out of order": appends(lead(1)),
		"Cut": cuts(3), "Cut of all": cuts(1), "Cut of none": cuts(9), "Trim": trims(9), "Trim of none": trims(1),
	}
	for what, d := range map[string]api.Disk{"a log": cutUp(1, 4, 1), "torn": torn(cutUp(1, 4, 1), "x"), "no log": disks(file("a", "x")), "a gap": cutUp(1, 5, 4), "down": down} {
		for call, c := range calls {
			if shares := disktest.Shares(d, c); shares != "" {
				t.Errorf("%s, %s, %s", what, call, shares)
			}
		}
	}
}

// 3.5, of entries: those handed in, and those answered, with their Members.
func TestNewEntries(t *testing.T) {
	l := append(some(1, 9), make([]api.Entry, 3)...)[:9]
	l[1].Members = append(make([]int, 0, 8), l[1].Members...)
	was := copied(l[:cap(l)])
	d, why := wal.Append(api.Disk{Fuse: -1}, l)
	if !equals(l[:cap(l)], was) || why != api.OK {
		t.Errorf("Append changes what is handed in, error %d", why)
	}
	before := clone(d)
	spoilEntries(l)
	if !same(d, before) {
		t.Error("Append keeps what is handed in")
	}
	first, _ := wal.Load(d)
	again, _ := wal.Load(d)
	spoilEntries(again)
	_, opened, _ := wal.Open(d)
	spoilEntries(opened)
	if !equals(first, was[:9]) || !same(d, before) {
		t.Error("what Load and Open answer shares memory")
	}
	spoilMembers(first[1].Members)
	for i := range first {
		if i != 1 && !equal(first[i], was[i]) {
			t.Errorf("the Members of an entry share memory with the entry %d", i)
		}
	}
}

// 3.5, of an entry's bytes.
func TestNewEntry(t *testing.T) {
	e := members(1, 2, 3, 5)
	e.Members = append(make([]int, 0, 8), e.Members...)
	wal.Check(e)
	s, _ := wal.Encode(e)
	if !equal(e, members(1, 2, 3, 5)) || !slices.Equal(e.Members[3:8], make([]int, 5)) {
		t.Error("Check or Encode changes what is handed in")
	}
	first, _ := wal.Decode(s)
	again, _ := wal.Decode(s)
	spoilMembers(again.Members)
	spoilMembers(e.Members)
	if !equal(first, members(1, 2, 3, 5)) {
		t.Error("what Decode answers shares memory")
	}
}
