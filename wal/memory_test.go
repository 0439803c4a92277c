package wal_test

import (
	"slices"
	"testing"

	"gaffer/api"
	"gaffer/wal"
)

// spoil writes all over the files, and the room behind them.
func spoil(files []api.File) {
	files = files[:cap(files)]
	for i := range files {
		files[i] = api.File{Name: "spoilt", Data: "spoilt", Synced: 1}
	}
}

func spoilEntries(l []api.Entry) {
	l = l[:cap(l)]
	for i := range l {
		spoilMembers(l[i].Members)
		l[i] = api.Entry{Index: 99, Data: "spoilt"}
	}
}

func spoilMembers(l []int) {
	l = l[:cap(l)]
	for i := range l {
		l[i] = 99
	}
}

// roomy is d with room behind its files.
func roomy(d api.Disk) (api.Disk, []api.File) {
	spare := api.File{Name: "spare", Data: "spare", Synced: 5}
	room := append(slices.Clone(d.Files), spare, spare, spare, spare, spare)
	d.Files = room[:len(d.Files):len(room)]
	return d, room
}

// 3.5, of the disk: whatever is written into what was answered, what was handed in stays as it was, and the other way round; room behind its end, too.
func TestNewMemory(t *testing.T) {
	down := cutUp(1, 4, 1)
	down.Down = true
	calls := map[string]change{
		"Open": opens, "Append": appends(some(6, 6)...), "Append of none": appends(), "Append of a wrong one": appends(lead(0)), "Append out of order": appends(lead(1)),
		"Cut": cuts(3), "Cut of all": cuts(1), "Cut of none": cuts(9), "Trim": trims(9), "Trim of none": trims(1),
	}
	for what, d := range map[string]api.Disk{"a log": cutUp(1, 4, 1), "torn": torn(cutUp(1, 4, 1), "x"), "no log": disks(file("a", "x")), "a gap": cutUp(1, 5, 4), "down": down} {
		for call, c := range calls {
			for _, fuse := range []int{-1, 0, 1, 2, 3} {
				given, room := roomy(d)
				given.Fuse = fuse
				whole := slices.Clone(room)
				first, why := c(given)
				told := clone(first)
				again, no := c(given)
				if !same(again, first) || why != no {
					t.Errorf("%s, %s, fuse %d: asked again it is another one", what, call, fuse)
				}
				spoil(again.Files)
				if !slices.Equal(room, whole) || !same(first, told) {
					t.Errorf("%s, %s, fuse %d: the answer shares memory", what, call, fuse)
				}
				spoil(room)
				if !same(first, told) {
					t.Errorf("%s, %s, fuse %d: the answer shares memory with what was handed in", what, call, fuse)
				}
			}
		}
	}
}

// 3.5, of entries: those handed in, and those answered, with their Members.
func TestNewEntries(t *testing.T) {
	l := append(some(1, 9), make([]api.Entry, 3)...)[:9]
	l[1].Members = append(make([]int, 0, 8), l[1].Members...)
	was := copied(l[:cap(l)])
	d, why := wal.Append(api.Disk{Fuse: -1}, l)
	if !equals(l[:cap(l)], was) || why != api.OK {
		t.Errorf("Append changes what is handed in, error %d", why)
	}
	before := clone(d)
	spoilEntries(l)
	if !same(d, before) {
		t.Error("Append keeps what is handed in")
	}
	first, _ := wal.Load(d)
	again, _ := wal.Load(d)
	spoilEntries(again)
	_, opened, _ := wal.Open(d)
	spoilEntries(opened)
	if !equals(first, was[:9]) || !same(d, before) {
		t.Error("what Load and Open answer shares memory")
	}
	spoilMembers(first[1].Members)
	for i := range first {
		if i != 1 && !equal(first[i], was[i]) {
			t.Errorf("the Members of an entry share memory with the entry %d", i)
		}
	}
}

// 3.5, of an entry's bytes.
func TestNewEntry(t *testing.T) {
	e := members(1, 2, 3, 5)
	e.Members = append(make([]int, 0, 8), e.Members...)
	wal.Check(e)
	s, _ := wal.Encode(e)
	if !equal(e, members(1, 2, 3, 5)) || !slices.Equal(e.Members[3:8], make([]int, 5)) {
		t.Error("Check or Encode changes what is handed in")
	}
	first, _ := wal.Decode(s)
	again, _ := wal.Decode(s)
	spoilMembers(again.Members)
	spoilMembers(e.Members)
	if !equal(first, members(1, 2, 3, 5)) {
		t.Error("what Decode answers shares memory")
	}
}
