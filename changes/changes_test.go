package changes_test

import (
	"slices"
	"testing"

	"gaffer/api"
	"gaffer/changes"
	"gaffer/disk"
)

func add(data string) changes.Change {
	return func(d api.Disk) (api.Disk, api.Errno) { return disk.Add(d, "a", data) }
}

func refused(d api.Disk) (api.Disk, api.Errno) { return disk.Sync(d, "none") }

// made is a disk of one file with room behind it.
func made() api.Disk {
	return api.Disk{Files: append(make([]api.File, 0, 4), api.File{Name: "a", Data: "0"}), Fuse: 3}
}

func TestDo(t *testing.T) {
	for i, one := range []struct {
		list []changes.Change
		data string
		fuse int
		why  api.Errno
	}{
		{nil, "0", 3, api.OK},
		{[]changes.Change{add("1")}, "01", 2, api.OK},
		{[]changes.Change{add("1"), add("2"), add("3")}, "0123", 0, api.OK},
		{[]changes.Change{add("1"), refused, add("3")}, "01", 2, api.ErrNone},
		{[]changes.Change{add("1"), add("2"), add("3"), add("4"), add("5")}, "01234", 0, api.ErrPower},
	} {
		d := made()
		e, why := changes.Do(d, one.list...)
		if len(e.Files) != 1 || e.Files[0].Data != one.data || e.Fuse != one.fuse || e.Down != (why == api.ErrPower) || why != one.why {
			t.Errorf("%d: %v, error %d", i, e, why)
		}
		e.Files[0].Data = "spoilt"
		_ = append(e.Files, api.File{Name: "spoilt"})
		if !slices.Equal(d.Files, made().Files) || d.Files[:2][1] != (api.File{}) {
			t.Errorf("%d: the answer shares memory", i)
		}
	}
}

// What becomes of the two files, fuse by fuse; the fourth change is needed only if there is one that is not done.
func TestRewrite(t *testing.T) {
	old := api.File{Name: "a", Data: "0"}
	half := api.File{Name: "a.tmp", Data: "ha"}
	for i, one := range []struct {
		fuse  int
		files []api.File
		left  []api.File
		why   api.Errno
	}{
		{-1, nil, []api.File{{Name: "a", Data: "new", Synced: 3}}, api.OK},
		{3, []api.File{old}, []api.File{{Name: "a", Data: "new", Synced: 3}}, api.OK},
		{4, []api.File{old, half}, []api.File{{Name: "a", Data: "new", Synced: 3}}, api.OK},
		{3, []api.File{old, half}, []api.File{old, {Name: "a.tmp", Data: "new", Synced: 3}}, api.ErrPower},
		{2, []api.File{old, half}, []api.File{old, {Name: "a.tmp", Data: "new"}}, api.ErrPower},
		{1, []api.File{old, half}, []api.File{old, {Name: "a.tmp", Data: "new"}}, api.ErrPower},
		{0, []api.File{old, half}, []api.File{old, half}, api.ErrPower},
		{2, []api.File{old}, []api.File{old, {Name: "a.tmp", Data: "new", Synced: 3}}, api.ErrPower},
	} {
		d, why := changes.Do(api.Disk{Files: one.files, Fuse: one.fuse}, changes.Rewrite("a", "a.tmp", "new")...)
		if !slices.Equal(d.Files, one.left) || why != one.why || d.Down != (why != api.OK) {
			t.Errorf("%d: %v, error %d", i, d, why)
		}
	}
}

func TestNone(t *testing.T) {
	d := made()
	e := changes.None(d)
	if !slices.Equal(e.Files, d.Files) || e.Fuse != 3 || e.Down {
		t.Errorf("a right one: %v", e)
	}
	e.Files[0].Data = "spoilt"
	if d.Files[0].Data != "0" {
		t.Error("the answer shares memory")
	}
	d.Down = true
	if e := changes.None(d); !e.Down || len(e.Files) != 1 {
		t.Errorf("one without power: %v", e)
	}
	d.Files[0].Synced = 2
	if e := changes.None(d); e.Files != nil || e.Down || e.Fuse != 0 {
		t.Errorf("one that is not right: %v", e)
	}
}
