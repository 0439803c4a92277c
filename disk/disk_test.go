package disk_test

import (
	"math"
	"math/rand"
	"slices"
	"strconv"
	"strings"
	"testing"

	"gaffer/api"
	"gaffer/disk"
	"gaffer/disktest"
)

const (
	longest = "abcdefghijklmnopqrstuvwxyz012345" // MaxName bytes
	tooLong = longest + "6"
)

func file(name, data string, synced int) api.File {
	return api.File{Name: name, Data: data, Synced: synced}
}

func disks(fuse int, files ...api.File) api.Disk { return api.Disk{Files: files, Fuse: fuse} }

// What the tests of all that stands on a disk have.
var (
	clone = disktest.Clone
	same  = disktest.Same
	brief = disktest.Brief
)

func nothing(d api.Disk) bool { return same(d, api.Disk{}) }

// many is n files, rising.
func many(n int) []api.File {
	var files []api.File
	for i := range n {
		files = append(files, file("m"+strconv.Itoa(10000+i), "x", i%2))
	}
	return files
}

// call is one of the changes, with all that it is given but the disk.
type call struct {
	what string
	do   func(d api.Disk) (api.Disk, api.Errno)
}

func add(name, data string) call {
	return call{"Add " + name + " " + data, func(d api.Disk) (api.Disk, api.Errno) { return disk.Add(d, name, data) }}
}

func sync(name string) call {
	return call{"Sync " + name, func(d api.Disk) (api.Disk, api.Errno) { return disk.Sync(d, name) }}
}

func cut(name string, size int) call {
	return call{"Cut " + name + " " + strconv.Itoa(size), func(d api.Disk) (api.Disk, api.Errno) { return disk.Cut(d, name, size) }}
}

func swap(from, to string) call {
	return call{"Swap " + from + " " + to, func(d api.Disk) (api.Disk, api.Errno) { return disk.Swap(d, from, to) }}
}

func drop(name string) call {
	return call{"Drop " + name, func(d api.Disk) (api.Disk, api.Errno) { return disk.Drop(d, name) }}
}

// look does c to d, holds what is told against want, and tells what it is.
func look(t *testing.T, d api.Disk, c call, want api.Disk, why api.Errno) {
	t.Helper()
	was := clone(d)
	got, err := c.do(d)
	if !same(got, want) || err != why {
		t.Errorf("%s: %v, error %d; not %v, error %d", c.what, brief(got), err, brief(want), why)
	}
	if !same(d, was) {
		t.Errorf("%s: what was handed in is changed", c.what)
	}
}

// wrong are disks made by hand that are not right.
func wrong() []api.Disk {
	up := []api.Disk{
		disks(-1, many(api.MaxFiles+1)...),
		disks(-1, file("a", "", 0), file("a", "", 0)),
		disks(-1, file("b", "", 0), file("a", "", 0)),
		disks(-1, file("a", "", 0), file("B", "", 0)),
		disks(-1, file("a", "", 0), file("", "", 0)),
		disks(-1, file("\xff", "", 0), file("\x7f", "", 0)),
		disks(-1, file("a\x00", "", 0), file("a", "", 0)),
		disks(-1, file("a", "", 0), file("c", "", 0), file("b", "", 0)),
		disks(-1, file("a", "", 0), file("b", "", 0), file("a", "", 0)),
		disks(-1, file("a", "xy", -1)),
		disks(-1, file("a", "xy", 3)),
		disks(-1, file("a", "", 1)),
		disks(-1, file("a", "xy", math.MinInt)),
		disks(-1, file("a", "xy", math.MaxInt)),
		disks(-1, file("a", "xy", 2), file("b", "xy", 3)),
		disks(-1, file("a", "xy", 2), file("b", "xy", -1), file("c", "", 0)),
	}
	var list []api.Disk
	for _, d := range up {
		down, burnt := clone(d), clone(d)
		down.Down, burnt.Fuse = true, 0
		list = append(list, d, down, burnt)
	}
	return list
}

// right are disks made by hand that are: a name may be any, if it was not given by a change.
func right() []api.Disk {
	return []api.Disk{
		{},
		{Down: true},
		{Fuse: math.MinInt},
		{Fuse: math.MaxInt},
		disks(-1, many(api.MaxFiles)...),
		disks(0, file("", "", 0)),
		disks(3, file("", "x", 0), file(tooLong, "x", 1)),
		disks(-1, file("A", "xy", 0), file("a", "xy", 1), file("a\x00", "xy", 2), file("\x7f", "", 0), file("\xff", "", 0)),
		disks(-1, file("a", strings.Repeat("x", 1<<20), 1<<20)),
	}
}

// 2.1: Check.
func TestCheck(t *testing.T) {
	for i, d := range right() {
		if why := disk.Check(d); why != api.OK {
			t.Errorf("right disk %d: error %d", i, why)
		}
	}
	for i, d := range wrong() {
		if why := disk.Check(d); why != api.ErrState {
			t.Errorf("wrong disk %d: error %d", i, why)
		}
	}
}

// 2.1: of a disk that is not right all answer ErrState, ahead of any other error, and all else is zero.
func TestWrongDisk(t *testing.T) {
	calls := []call{add("a", "x"), add("", "x"), add("new", ""), sync("a"), sync("none"), cut("a", 0), cut("a", -1), cut("none", 0), swap("a", "b"), swap("none", ""), drop("a"), drop("none")}
	for i, d := range wrong() {
		was := clone(d)
		for _, c := range calls {
			look(t, d, c, api.Disk{}, api.ErrState)
		}
		if e, why := disk.Crash(d, []int{1, 1}); !nothing(e) || why != api.ErrState {
			t.Errorf("wrong disk %d: Crash: %s, error %d", i, brief(e), why)
		}
		for _, name := range []string{"a", "none", ""} {
			if s, why := disk.Read(d, name); s != "" || why != api.ErrState {
				t.Errorf("wrong disk %d: Read: %q, error %d", i, s, why)
			}
			if l, why := disk.Names(d, name); len(l) != 0 || why != api.ErrState {
				t.Errorf("wrong disk %d: Names: %q, error %d", i, l, why)
			}
		}
		if !same(d, was) {
			t.Errorf("wrong disk %d is changed", i)
		}
	}
}

// 2.1: Read.
func TestRead(t *testing.T) {
	d := disks(0, file("", "nameless", 0), file("a", "xy", 1), file(tooLong, "long", 4), file("b", "", 0), file("c", "\x00\xff", 2))
	for name, want := range map[string]string{"": "nameless", "a": "xy", "b": "", "c": "\x00\xff", tooLong: "long"} {
		if s, why := disk.Read(d, name); s != want || why != api.OK {
			t.Errorf("Read %q: %q, error %d", name, s, why)
		}
	}
	for _, name := range []string{"A", "aa", "a\x00", "bb", "d", "\xff"} {
		if s, why := disk.Read(d, name); s != "" || why != api.ErrNone {
			t.Errorf("Read %q: %q, error %d", name, s, why)
		}
	}
	if s, why := disk.Read(api.Disk{}, ""); s != "" || why != api.ErrNone {
		t.Errorf("Read of no file: %q, error %d", s, why)
	}
	d.Down = true
	for _, name := range []string{"a", "none"} {
		if s, why := disk.Read(d, name); s != "" || why != api.ErrPower {
			t.Errorf("Read %q without power: %q, error %d", name, s, why)
		}
	}
	full := disks(-1, many(api.MaxFiles)...)
	for _, f := range full.Files {
		if s, why := disk.Read(full, f.Name); s != "x" || why != api.OK {
			t.Fatalf("Read %q: %q, error %d", f.Name, s, why)
		}
	}
}

// 2.1: Names.
func TestNames(t *testing.T) {
	d := disks(0, file("", "", 0), file("A/1", "", 0), file("a", "", 0), file("a/", "", 0), file("a/1", "", 0), file("a/10", "", 0), file("a/2", "", 0), file("ab", "", 0), file("a\xff", "", 0), file("b/a/1", "", 0))
	for prefix, want := range map[string][]string{
		"":      {"", "A/1", "a", "a/", "a/1", "a/10", "a/2", "ab", "a\xff", "b/a/1"},
		"a":     {"a", "a/", "a/1", "a/10", "a/2", "ab", "a\xff"},
		"a/":    {"a/", "a/1", "a/10", "a/2"},
		"a/1":   {"a/1", "a/10"},
		"a/10":  {"a/10"},
		"a/100": nil,
		"b":     {"b/a/1"},
		"c":     nil,
		"\xff":  nil,
	} {
		if l, why := disk.Names(d, prefix); !slices.Equal(l, want) || why != api.OK {
			t.Errorf("Names %q: %q, error %d", prefix, l, why)
		}
	}
	d.Down = true
	for _, prefix := range []string{"", "a", "none"} {
		if l, why := disk.Names(d, prefix); len(l) != 0 || why != api.ErrPower {
			t.Errorf("Names %q without power: %q, error %d", prefix, l, why)
		}
	}
	if l, why := disk.Names(disks(-1, many(api.MaxFiles)...), "m"); len(l) != api.MaxFiles || !slices.IsSorted(l) || why != api.OK {
		t.Errorf("Names of a full disk: %d, error %d", len(l), why)
	}
}

// 2.2: Add.
func TestAdd(t *testing.T) {
	d := disks(-1, file("b", "xy", 1), file("d", "", 0))
	look(t, d, add("b", "zw"), disks(-1, file("b", "xyzw", 1), file("d", "", 0)), api.OK)
	look(t, d, add("b", ""), d, api.OK)
	look(t, d, add("d", "\x00\xff"), disks(-1, file("b", "xy", 1), file("d", "\x00\xff", 0)), api.OK)
	look(t, d, add("a", "1"), disks(-1, file("a", "1", 0), file("b", "xy", 1), file("d", "", 0)), api.OK)
	look(t, d, add("c", "1"), disks(-1, file("b", "xy", 1), file("c", "1", 0), file("d", "", 0)), api.OK)
	look(t, d, add("e", ""), disks(-1, file("b", "xy", 1), file("d", "", 0), file("e", "", 0)), api.OK)
	look(t, d, add("B", "1"), disks(-1, file("B", "1", 0), file("b", "xy", 1), file("d", "", 0)), api.OK)
	look(t, api.Disk{Fuse: -1}, add("a", "1"), disks(-1, file("a", "1", 0)), api.OK)
	look(t, api.Disk{Fuse: -1}, add("\x00", "1"), disks(-1, file("\x00", "1", 0)), api.OK)
	look(t, api.Disk{Fuse: -1}, add(longest, "1"), disks(-1, file(longest, "1", 0)), api.OK)
	look(t, d, add("", "1"), d, api.ErrName)
	look(t, d, add(tooLong, "1"), d, api.ErrName)
	look(t, d, add(strings.Repeat("n", 1<<16), "1"), d, api.ErrName)
	odd := disks(-1, file("", "x", 0), file(tooLong, "x", 0))
	look(t, odd, add("", "1"), odd, api.ErrName)
	look(t, odd, add(tooLong, "1"), odd, api.ErrName)
}

// 2.2: Add of a disk that is full, or nearly.
func TestAddFull(t *testing.T) {
	full := disks(-1, many(api.MaxFiles)...)
	look(t, full, add("a", "1"), full, api.ErrFull)
	look(t, full, add("z", ""), full, api.ErrFull)
	look(t, full, add("", "1"), full, api.ErrName)
	look(t, full, add(tooLong, "1"), full, api.ErrName)
	want := clone(full)
	want.Files[7].Data = "xy"
	look(t, full, add(want.Files[7].Name, "y"), want, api.OK)
	want = clone(full)
	nearly := clone(full)
	nearly.Files = nearly.Files[1:]
	want.Files[0].Data = "1"
	look(t, nearly, add(want.Files[0].Name, "1"), want, api.OK)
}

// 2.2: Sync.
func TestSync(t *testing.T) {
	d := disks(-1, file("", "xy", 0), file("a", "xy", 0), file("b", "xy", 1), file("c", "xy", 2), file("d", "", 0))
	for i, f := range d.Files {
		want := clone(d)
		want.Files[i].Synced = len(f.Data)
		look(t, d, sync(f.Name), want, api.OK)
	}
	look(t, d, sync("none"), d, api.ErrNone)
	look(t, d, sync("ab"), d, api.ErrNone)
	look(t, api.Disk{Fuse: -1}, sync(""), api.Disk{Fuse: -1}, api.ErrNone)
}

// 2.2: Cut.
func TestCut(t *testing.T) {
	d := disks(-1, file("", "xy", 2), file("a", "wxyz", 2), file("b", "", 0))
	for size, synced := range []int{0, 1, 2, 2, 2} {
		look(t, d, cut("a", size), disks(-1, d.Files[0], file("a", "wxyz"[:size], synced), d.Files[2]), api.OK)
	}
	look(t, d, cut("", 1), disks(-1, file("", "x", 1), d.Files[1], d.Files[2]), api.OK)
	look(t, d, cut("b", 0), d, api.OK)
	for _, size := range []int{-1, 5, math.MinInt, math.MaxInt} {
		look(t, d, cut("a", size), d, api.ErrRange)
		look(t, d, cut("none", size), d, api.ErrNone)
	}
	look(t, d, cut("b", 1), d, api.ErrRange)
	look(t, d, cut("b", -1), d, api.ErrRange)
	look(t, d, cut("none", 0), d, api.ErrNone)
}

// 2.2: Swap.
func TestSwap(t *testing.T) {
	a, b, c, wet := file("a", "1", 1), file("b", "2", 1), file("c", "", 0), file("d", "4", 0)
	as := func(f api.File, name string) api.File {
		f.Name = name
		return f
	}
	d := disks(-1, a, b, c, wet)
	look(t, d, swap("a", "b"), disks(-1, as(a, "b"), c, wet), api.OK)
	look(t, d, swap("b", "a"), disks(-1, as(b, "a"), c, wet), api.OK)
	look(t, d, swap("c", "a"), disks(-1, as(c, "a"), b, wet), api.OK)
	look(t, d, swap("a", "d"), disks(-1, b, c, as(a, "d")), api.OK)
	look(t, d, swap("a", "e"), disks(-1, b, c, wet, as(a, "e")), api.OK)
	look(t, d, swap("c", "aa"), disks(-1, a, as(c, "aa"), b, wet), api.OK)
	look(t, d, swap("b", "A"), disks(-1, as(b, "A"), a, c, wet), api.OK)
	look(t, d, swap("b", longest), disks(-1, a, as(b, longest), c, wet), api.OK)
	look(t, d, swap("b", "b"), d, api.OK)
	look(t, disks(-1, a), swap("a", "b"), disks(-1, as(a, "b")), api.OK)
	look(t, d, swap("d", "a"), d, api.ErrWet)
	look(t, d, swap("d", "d"), d, api.ErrWet)
	look(t, d, swap("none", "a"), d, api.ErrNone)
	look(t, d, swap("none", "none"), d, api.ErrNone)
	look(t, d, swap("a", ""), d, api.ErrName)
	look(t, d, swap("a", tooLong), d, api.ErrName)
	look(t, d, swap("none", ""), d, api.ErrNone)
	look(t, d, swap("d", tooLong), d, api.ErrWet)
	odd := disks(-1, file("", "1", 1), file(tooLong, "2", 1))
	look(t, odd, swap("", "a"), disks(-1, file("a", "1", 1), odd.Files[1]), api.OK)
	look(t, odd, swap("", ""), odd, api.ErrName)
	look(t, odd, swap(tooLong, tooLong), odd, api.ErrName)
	full := disks(-1, many(api.MaxFiles)...)
	want := clone(full)
	moved := want.Files[1] // the first one that is synced
	moved.Name = "a"
	want.Files = append([]api.File{moved}, append(want.Files[:1:1], want.Files[2:]...)...)
	look(t, full, swap(full.Files[1].Name, "a"), want, api.OK)
}

// 2.2: Drop.
func TestDrop(t *testing.T) {
	d := disks(-1, file("", "1", 0), file("a", "2", 1), file("b", "", 0))
	look(t, d, drop(""), disks(-1, d.Files[1], d.Files[2]), api.OK)
	look(t, d, drop("a"), disks(-1, d.Files[0], d.Files[2]), api.OK)
	look(t, d, drop("b"), disks(-1, d.Files[0], d.Files[1]), api.OK)
	look(t, disks(-1, file("a", "", 0)), drop("a"), api.Disk{Fuse: -1}, api.OK)
	look(t, d, drop("none"), d, api.ErrNone)
	look(t, d, drop("aa"), d, api.ErrNone)
	look(t, api.Disk{Fuse: -1}, drop(""), api.Disk{Fuse: -1}, api.ErrNone)
}

// some is a disk, changes of it that nothing refuses, and others by the error that refuses them.
func some() (api.Disk, []call, map[api.Errno][]call) {
	d := disks(-1, file("a", "12", 2), file("b", "34", 1))
	good := []call{add("a", "x"), add("c", "x"), sync("a"), sync("b"), cut("a", 2), cut("b", 0), swap("a", "b"), swap("a", "c"), swap("a", "a"), drop("a"), drop("b")}
	bad := map[api.Errno][]call{
		api.ErrName:  {add("", "x"), add(tooLong, "x"), swap("a", ""), swap("a", tooLong)},
		api.ErrNone:  {sync("c"), cut("c", 0), swap("c", "a"), drop("c")},
		api.ErrRange: {cut("a", -1), cut("b", 3)},
		api.ErrWet:   {swap("b", "a"), swap("b", "b")},
	}
	return d, good, bad
}

// Words: without power nothing is done and nothing burns, ahead of what a change refuses itself; the disk is told.
func TestDown(t *testing.T) {
	d, calls, bad := some()
	for _, l := range bad {
		calls = append(calls, l...)
	}
	d.Down = true
	for _, fuse := range []int{-1, 0, 1} {
		d.Fuse = fuse
		for _, c := range calls {
			look(t, d, c, d, api.ErrPower)
		}
	}
	full := disks(-1, many(api.MaxFiles)...)
	full.Down = true
	look(t, full, add("a", "1"), full, api.ErrPower)
	if why := disk.Check(d); why != api.OK {
		t.Errorf("Check without power: error %d", why)
	}
}

// Words: a Fuse of 0. The power goes in the change; only of an Add there are the bytes.
func TestFuseGone(t *testing.T) {
	d, good, _ := some()
	d.Fuse = 0
	off := clone(d)
	off.Down = true
	for _, c := range good {
		want := clone(off)
		switch c.what {
		case "Add a x":
			want.Files[0].Data = "12x"
		case "Add c x":
			want.Files = append(want.Files, file("c", "x", 0))
		}
		look(t, d, c, want, api.ErrPower)
	}
	e, _ := disk.Add(d, "a", "x")
	for _, c := range good {
		look(t, e, c, e, api.ErrPower)
	}
	for keep, want := range []string{"12", "12x", "12x"} {
		left, why := disk.Crash(e, []int{keep})
		if s, _ := disk.Read(left, "a"); s != want || why != api.OK || left.Down || left.Fuse != -1 {
			t.Errorf("crash keeping %d: %s, error %d", keep, brief(left), why)
		}
	}
}

// Words: a Fuse above 0 is one less behind what is done; one below 0 stays.
func TestFuseBurns(t *testing.T) {
	d, good, _ := some()
	for _, c := range good {
		never, why := c.do(d)
		if why != api.OK || never.Fuse != -1 {
			t.Errorf("%s: %s, error %d", c.what, brief(never), why)
		}
		for fuse, left := range map[int]int{1: 0, 2: 1, 17: 16, math.MaxInt: math.MaxInt - 1, -2: -2, math.MinInt: math.MinInt} {
			from, want := clone(d), clone(never)
			from.Fuse, want.Fuse = fuse, left
			look(t, from, c, want, api.OK)
		}
	}
	d.Fuse = 3
	for i := range 5 {
		e, why := disk.Add(d, "a", "x")
		if want := i < 3; (why == api.OK) == want && e.Down != want {
			d = e
			continue
		}
		t.Errorf("Add %d: %s, error %d", i, brief(e), why)
	}
	if d.Files[0].Data != "12xxxx" || d.Files[0].Synced != 2 {
		t.Errorf("behind three changes and the one in which the power went: %s", brief(d))
	}
}

// 2.6, and 2.1: the disk is told beside the error, as it is.
func TestRefused(t *testing.T) {
	d, _, bad := some()
	for _, fuse := range []int{math.MinInt, -1, 0, 1, 2, math.MaxInt} {
		d.Fuse = fuse
		for why, calls := range bad {
			for _, c := range calls {
				look(t, d, c, d, why)
			}
		}
		full := disks(fuse, many(api.MaxFiles)...)
		look(t, full, add("a", "1"), full, api.ErrFull)
	}
}

// 2.3, and the chapter's example.
func TestCrash(t *testing.T) {
	d := disks(0, file("", "xyzw", 2), file("a", "xyzw", 0), file("b", "xyzw", 4), file("c", "", 0), file("d", "xyzw", 3))
	d.Down = true
	lasts := []string{"xy", "", "xyzw", "", "xyz"}
	for _, one := range []struct {
		keep []int
		want []string
	}{
		{nil, lasts},
		{[]int{}, lasts},
		{[]int{0, 0, 0, 0, 0}, lasts},
		{[]int{-1, -2, -3, -4, math.MinInt}, lasts},
		{[]int{1}, []string{"xyz", "", "xyzw", "", "xyz"}},
		{[]int{1, 1, 1, 1, 1, 1}, []string{"xyz", "x", "xyzw", "", "xyzw"}},
		{[]int{2, 2, 2, 2, 2}, []string{"xyzw", "xy", "xyzw", "", "xyzw"}},
		{[]int{3, 3, 3, 3, 3}, []string{"xyzw", "xyz", "xyzw", "", "xyzw"}},
		{[]int{4, 4, 4, 4, 4}, []string{"xyzw", "xyzw", "xyzw", "", "xyzw"}},
		{[]int{math.MaxInt, math.MaxInt, math.MaxInt, math.MaxInt, math.MaxInt, 9, 9}, []string{"xyzw", "xyzw", "xyzw", "", "xyzw"}},
		{[]int{-1, 3, 9, 9, 0}, []string{"xy", "xyz", "xyzw", "", "xyz"}},
		{[]int{0, 0, 0, 0, 1}, []string{"xy", "", "xyzw", "", "xyzw"}},
	} {
		was, kept := clone(d), slices.Clone(one.keep)
		e, why := disk.Crash(d, one.keep)
		want := clone(d)
		want.Down, want.Fuse = false, -1
		for i, s := range one.want {
			want.Files[i].Data, want.Files[i].Synced = s, len(s)
		}
		if !same(e, want) || why != api.OK {
			t.Errorf("Crash keeping %v: %s, error %d; not %s", one.keep, brief(e), why, brief(want))
		}
		if !same(d, was) || !slices.Equal(one.keep, kept) {
			t.Errorf("Crash keeping %v: what was handed in is changed", one.keep)
		}
	}
	for _, d := range right() {
		if e, why := disk.Crash(d, nil); why != api.OK || e.Down || e.Fuse != -1 || len(e.Files) != len(d.Files) || disk.Check(e) != api.OK {
			t.Errorf("Crash of %s: %s, error %d", brief(d), brief(e), why)
		}
	}
}

// 2.4: whatever is written into what was answered, what was handed in stays as it was, and the other way round; room behind its end, too.
func TestNewMemory(t *testing.T) {
	made, good, bad := some()
	calls := append([]call{{"Crash", func(d api.Disk) (api.Disk, api.Errno) { return disk.Crash(d, []int{0, 1}) }}}, good...)
	for _, l := range bad {
		calls = append(calls, l...)
	}
	for _, d := range []api.Disk{made, disktest.Down(made)} {
		for _, c := range calls {
			if shares := disktest.Shares(d, c.do); shares != "" {
				t.Errorf("%s, down %t, %s", c.what, d.Down, shares)
			}
		}
	}
}

// spoil writes all over a list, and the room behind it.
func spoil(files []api.File) {
	files = files[:cap(files)]
	for i := range files {
		files[i] = file("spoilt", "spoilt", 1)
	}
}

// 2.4, of Read and Names.
func TestNewMemoryAsked(t *testing.T) {
	d := disks(-1, file("a", "1", 0), file("b", "2", 1))
	was := clone(d)
	s, _ := disk.Read(d, "a")
	first, _ := disk.Names(d, "")
	again, _ := disk.Names(d, "")
	again[0], again[1] = "x", "y"
	_ = append(again[:0], "z", "z", "z")
	if !slices.Equal(first, []string{"a", "b"}) || !same(d, was) {
		t.Errorf("Names: %q, %s", first, brief(d))
	}
	spoil(d.Files)
	if s != "1" || !slices.Equal(first, []string{"a", "b"}) {
		t.Errorf("behind: %q, %q", s, first)
	}
}

// model is a disk in other words: by name what is there, and how much of it lasts.
type model struct {
	data  map[string]string
	lasts map[string]int
	down  bool
	fuse  int
}

func (m *model) told() api.Disk {
	d := api.Disk{Down: m.down, Fuse: m.fuse}
	for name, data := range m.data {
		d.Files = append(d.Files, file(name, data, m.lasts[name]))
	}
	slices.SortFunc(d.Files, func(a, b api.File) int { return strings.Compare(a.Name, b.Name) })
	return d
}

// change does what done says, unless the power is off, or goes.
func (m *model) change(refused api.Errno, adds bool, done func()) api.Errno {
	switch {
	case m.down:
		return api.ErrPower
	case refused != api.OK:
		return refused
	case m.fuse == 0:
		m.down = true
		if adds {
			done()
		}
		return api.ErrPower
	}
	done()
	if m.fuse > 0 {
		m.fuse--
	}
	return api.OK
}

func (m *model) has(name string) bool {
	_, ok := m.data[name]
	return ok
}

func (m *model) add(name, data string) api.Errno {
	why := api.OK
	if name == "" || len(name) > 32 {
		why = api.ErrName
	}
	return m.change(why, true, func() { m.data[name] += data })
}

func (m *model) none(name string) api.Errno {
	if m.has(name) {
		return api.OK
	}
	return api.ErrNone
}

func (m *model) sync(name string) api.Errno {
	return m.change(m.none(name), false, func() { m.lasts[name] = len(m.data[name]) })
}

func (m *model) cut(name string, size int) api.Errno {
	why := m.none(name)
	if why == api.OK && (size < 0 || size > len(m.data[name])) {
		why = api.ErrRange
	}
	return m.change(why, false, func() {
		m.data[name] = m.data[name][:size]
		m.lasts[name] = min(m.lasts[name], size)
	})
}

func (m *model) swap(from, to string) api.Errno {
	why := m.none(from)
	if why == api.OK && m.lasts[from] != len(m.data[from]) {
		why = api.ErrWet
	} else if why == api.OK && (to == "" || len(to) > 32) {
		why = api.ErrName
	}
	return m.change(why, false, func() {
		data, lasts := m.data[from], m.lasts[from]
		m.forget(from)
		m.data[to], m.lasts[to] = data, lasts
	})
}

func (m *model) forget(name string) {
	delete(m.data, name)
	delete(m.lasts, name)
}

func (m *model) drop(name string) api.Errno {
	return m.change(m.none(name), false, func() { m.forget(name) })
}

// 2.2, 2.3, 2.5 and 2.6 of long rows of changes and crashes, each held against the model.
func TestLongRows(t *testing.T) {
	draw := rand.New(rand.NewSource(1))
	names := []string{"a", "b", "c", "d/1", "d/2", "", tooLong, longest}
	for range 300 {
		d := api.Disk{Fuse: draw.Intn(12) - 1}
		m := &model{data: map[string]string{}, lasts: map[string]int{}, fuse: d.Fuse}
		for step := range 60 {
			name, other := names[draw.Intn(len(names))], names[draw.Intn(len(names))]
			data, size := strings.Repeat("xyz", draw.Intn(3)), draw.Intn(8)-1
			if m.fuse == 0 {
				data += "w" // of an Add of no bytes the words leave open what is there when the power goes
			}
			var c call
			var why api.Errno
			was := m.told()
			switch kind := draw.Intn(12); {
			case kind < 4:
				c, why = add(name, data), m.add(name, data)
			case kind < 7:
				c, why = sync(name), m.sync(name)
			case kind < 8:
				c, why = cut(name, size), m.cut(name, size)
			case kind < 10:
				c, why = swap(name, other), m.swap(name, other)
			case kind < 11:
				c, why = drop(name), m.drop(name)
			default:
				d = crash(t, d, draw)
				m = fresh(d)
				continue
			}
			look(t, d, c, m.told(), why)
			if why != api.OK && why != api.ErrPower && !same(m.told(), was) {
				t.Fatalf("step %d: %s is refused, and changes something", step, c.what)
			}
			d, _ = c.do(d)
		}
	}
}

// crash tells what is left of d, and holds it against what must be: what lasts, and a beginning of the rest.
func crash(t *testing.T, d api.Disk, draw *rand.Rand) api.Disk {
	t.Helper()
	keep := make([]int, draw.Intn(len(d.Files)+2))
	for i := range keep {
		keep[i] = draw.Intn(6) - 1
	}
	left, why := disk.Crash(d, keep)
	if why != api.OK || left.Down || left.Fuse != -1 || len(left.Files) != len(d.Files) {
		t.Fatalf("Crash of %s: %s, error %d", brief(d), brief(left), why)
	}
	for i, f := range d.Files {
		size := f.Synced
		if i < len(keep) && keep[i] > 0 {
			size += keep[i]
		}
		want := f.Data[:min(size, len(f.Data))]
		if !strings.HasPrefix(want, f.Data[:f.Synced]) || left.Files[i] != file(f.Name, want, len(want)) {
			t.Fatalf("Crash of %s keeping %v: %s", brief(d), keep, brief(left))
		}
	}
	return left
}

func fresh(d api.Disk) *model {
	m := &model{data: map[string]string{}, lasts: map[string]int{}, down: d.Down, fuse: d.Fuse}
	for _, f := range d.Files {
		m.data[f.Name], m.lasts[f.Name] = f.Data, f.Synced
	}
	return m
}

// 2.5: wherever the power goes in a row of changes, and whatever is kept.
func TestSafe(t *testing.T) {
	row := []call{add("a", "12"), sync("a"), add("a", "34"), add("b", "x"), sync("b"), swap("b", "c"), sync("a"), add("a", "5")}
	lasts := []string{"", "", "12", "12", "12", "12", "12", "1234", "1234"}
	behind := []string{"12", "12", "1234", "1234", "1234", "1234", "1234", "12345", "12345"}
	for fuse := range len(row) + 1 {
		d := api.Disk{Fuse: fuse}
		for _, c := range row {
			d, _ = c.do(d)
		}
		if d.Down != (fuse < len(row)) {
			t.Errorf("fuse %d: %s", fuse, brief(d))
		}
		for keep := range 6 {
			e, why := disk.Crash(d, []int{keep, keep, keep})
			s, none := disk.Read(e, "a")
			if why != api.OK || none != api.OK || !strings.HasPrefix(s, lasts[fuse]) || !strings.HasPrefix(behind[fuse], s) {
				t.Errorf("fuse %d, keeping %d: a is %q, error %d", fuse, keep, s, none)
			}
			if c, why := disk.Read(e, "c"); (why == api.OK) != (fuse > 5) || fuse > 5 && c != "x" {
				t.Errorf("fuse %d, keeping %d: c is %q, error %d", fuse, keep, c, why)
			}
		}
	}
}

// DOC.md's P3: nil and empty lists are alike.
func TestNilAndEmpty(t *testing.T) {
	for _, c := range []call{add("a", "1"), add("", ""), sync("a"), cut("a", 0), swap("a", "b"), drop("a")} {
		for _, fuse := range []int{-1, 0, 1} {
			a, why := c.do(api.Disk{Fuse: fuse})
			b, why2 := c.do(api.Disk{Files: []api.File{}, Fuse: fuse})
			if !same(a, b) || why != why2 {
				t.Errorf("%s, fuse %d: %s, error %d; and %s, error %d", c.what, fuse, brief(a), why, brief(b), why2)
			}
		}
	}
}
