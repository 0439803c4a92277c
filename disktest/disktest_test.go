package disktest_test

import (
	"testing"

	"gaffer/api"
	"gaffer/disk"
	"gaffer/disktest"
)

func add(name string) disktest.Call {
	return func(d api.Disk) (api.Disk, api.Errno) { return disk.Add(d, name, "x") }
}

// none does nothing, in memory of its own.
func none(why api.Errno) disktest.Call {
	return func(d api.Disk) (api.Disk, api.Errno) { return disktest.Clone(d), why }
}

// both does one call, and then the other one.
func both(a, b disktest.Call) disktest.Call {
	return func(d api.Disk) (api.Disk, api.Errno) { return disktest.Row(d, a, b) }
}

// writes writes into what it is given.
func writes(d api.Disk) (api.Disk, api.Errno) {
	e, why := add("b")(d)
	d.Files[0].Data = "changed"
	return e, why
}

func some() api.Disk { return disktest.Of(disktest.File("c", "3"), disktest.File("a", "1")) }

// What is told of calls that do what they are to do, and of others that do not.
func TestDiffers(t *testing.T) {
	for what, one := range map[string]struct {
		call disktest.Call
		list []disktest.Call
		want bool
	}{
		"nothing":           {none(api.OK), nil, false},
		"one":               {add("b"), []disktest.Call{add("b")}, false},
		"two":               {both(add("b"), add("b")), []disktest.Call{add("b"), add("b")}, false},
		"one too many":      {both(add("b"), add("b")), []disktest.Call{add("b")}, true},
		"one too few":       {add("b"), []disktest.Call{add("b"), add("b")}, true},
		"another one":       {add("c"), []disktest.Call{add("b")}, true},
		"in another order":  {both(add("c"), add("b")), []disktest.Call{add("b"), add("c")}, true},
		"another error":     {none(api.ErrForm), nil, true},
		"none that goes on": {none(api.OK), []disktest.Call{none(api.OK)}, true},
		"changed":           {writes, []disktest.Call{add("b")}, true},
	} {
		if s := disktest.Differs(some(), one.call, one.list...); (s != "") != one.want {
			t.Errorf("%s: told is %q", what, s)
		}
	}
}

func TestRefuses(t *testing.T) {
	wrong := disktest.Wrong(disktest.File("b", "2"))
	for what, d := range wrong {
		if disk.Check(d) == api.OK {
			t.Errorf("%s: it is right", what)
		}
		if s := disktest.Refuses(d, add("b"), api.ErrState); s != "" {
			t.Errorf("%s: told is %q", what, s)
		}
		if s := disktest.Refuses(d, none(api.ErrState), api.ErrState); s == "" {
			t.Errorf("%s: nothing is told of a disk that is not zero", what)
		}
	}
	for what, one := range map[string]struct {
		call disktest.Call
		want bool
	}{
		"as it was":     {none(api.ErrForm), false},
		"another error": {none(api.ErrGap), true},
		"something":     {add("b"), true},
		"zero":          {func(d api.Disk) (api.Disk, api.Errno) { return api.Disk{}, api.ErrForm }, true},
		"changed":       {func(d api.Disk) (api.Disk, api.Errno) { writes(d); return disktest.Clone(d), api.ErrForm }, true},
	} {
		if s := disktest.Refuses(some(), one.call, api.ErrForm); (s != "") != one.want {
			t.Errorf("%s: told is %q", what, s)
		}
	}
	if s := disktest.Refuses(disktest.Down(some()), add("b"), api.ErrPower); s != "" {
		t.Errorf("without power: told is %q", s)
	}
}

func TestShares(t *testing.T) {
	var kept api.Disk
	for what, one := range map[string]struct {
		call disktest.Call
		want bool
	}{
		"its own":       {add("b"), false},
		"what is given": {func(d api.Disk) (api.Disk, api.Errno) { return d, api.OK }, true},
		"the room": {func(d api.Disk) (api.Disk, api.Errno) {
			d.Files = append(d.Files, api.File{Name: "x"})
			return d, api.OK
		}, true},
		"an earlier one": {func(d api.Disk) (api.Disk, api.Errno) {
			if kept.Files == nil || kept.Fuse != d.Fuse {
				kept = disktest.Clone(d)
			}
			return kept, api.OK
		}, true},
		"changed": {writes, true},
	} {
		if s := disktest.Shares(some(), one.call); (s != "") != one.want {
			t.Errorf("%s: told is %q", what, s)
		}
	}
}

func TestDisks(t *testing.T) {
	d := disktest.With(some(), disktest.File("b", "2"))
	if len(d.Files) != 3 || d.Files[1].Name != "b" || d.Fuse != -1 || disk.Check(d) != api.OK || !disktest.Same(disktest.Without(d, "b", "x"), some()) {
		t.Error("With, or Without:", disktest.Brief(d))
	}
	if d := disktest.Of(append(disktest.Beside("hard"), disktest.File("hard", ""), disktest.File("hard.tmp", ""))...); disk.Check(d) != api.OK {
		t.Error("Beside:", disktest.Brief(d))
	}
	if disk.Check(disktest.Of(disktest.Many(api.MaxFiles)...)) != api.OK {
		t.Error("Many: they do not rise")
	}
}
