// Package disktest is for tests alone: disks to ask a layer with that keeps something there, and what its answers are held against.
package disktest

import (
	"cmp"
	"slices"
	"strconv"
	"strings"

	"gaffer/api"
	"gaffer/disk"
)

// Call is one of the disk's changes, or a whole one of a layer's, with all that it is given but the disk.
type Call func(d api.Disk) (api.Disk, api.Errno)

// File is one of which all lasts.
func File(name, data string) api.File {
	return api.File{Name: name, Data: data, Synced: len(data)}
}

// Of is a disk of these files, in whatever order they are; no fuse is set.
func Of(files ...api.File) api.Disk {
	return With(api.Disk{Fuse: -1}, files...)
}

// With is d and these files, too.
func With(d api.Disk, files ...api.File) api.Disk {
	d.Files = slices.SortedFunc(slices.Values(slices.Concat(d.Files, files)), func(a, b api.File) int { return cmp.Compare(a.Name, b.Name) })
	return d
}

// Without is d but for the files of these names.
func Without(d api.Disk, names ...string) api.Disk {
	d.Files = slices.DeleteFunc(slices.Clone(d.Files), func(f api.File) bool { return slices.Contains(names, f.Name) })
	return d
}

// Fused is d with that fuse.
func Fused(d api.Disk, fuse int) api.Disk {
	d = Clone(d)
	d.Fuse = fuse
	return d
}

// Clone has memory of its own.
func Clone(d api.Disk) api.Disk {
	d.Files = slices.Clone(d.Files)
	return d
}

// Same takes nil and empty lists for alike.
func Same(a, b api.Disk) bool {
	return slices.Equal(a.Files, b.Files) && a.Down == b.Down && a.Fuse == b.Fuse
}

// Brief is few words on d, however much is there.
func Brief(d api.Disk) string {
	s := "fuse " + strconv.Itoa(d.Fuse) + ", " + strconv.Itoa(len(d.Files)) + " files"
	if d.Down {
		s = "down, " + s
	}
	for _, f := range d.Files[:min(8, len(d.Files))] {
		s += " " + strconv.Quote(f.Name) + ":" + strconv.Quote(f.Data[:min(20, len(f.Data))]) + ":" + strconv.Itoa(f.Synced) + "/" + strconv.Itoa(len(f.Data))
	}
	return s
}

// Many are n files whose names begin with x.
func Many(n int) []api.File {
	var files []api.File
	for i := range n {
		files = append(files, File("x"+strconv.Itoa(100000+i), ""))
	}
	return files
}

// Beside are files whose names are nearly that one; some of them are not synced.
func Beside(name string) []api.File {
	end := len(name) - 1
	return []api.File{
		{Name: "", Data: "x"},
		{Name: strings.ToUpper(name), Data: "xy", Synced: 1},
		{Name: name[:end], Data: "xy"},
		{Name: name + ".tm", Data: "xy"},
		{Name: name + ".tmp2", Data: "xy", Synced: 1},
		{Name: name + "2", Data: "xyz", Synced: 2},
		{Name: "w/0000000000000001", Data: "x"},
	}
}

// Wrong are disks that are not right, though f, whose name is to be between a and x, is there.
func Wrong(f api.File) map[string]api.Disk {
	synced := f
	synced.Synced = len(f.Data) + 1
	a, x := File("a", ""), File("x", "")
	return map[string]api.Disk{
		"too many files":     With(Of(Many(api.MaxFiles)...), f),
		"files that fall":    {Files: []api.File{f, a}, Fuse: -1},
		"twice":              {Files: []api.File{f, f}, Fuse: -1},
		"synced, more":       {Files: []api.File{synced}, Fuse: -1},
		"another's, below 0": {Files: []api.File{a, f, {Name: "x", Synced: -1}}, Fuse: -1},
		"and without power":  {Files: []api.File{f, f}, Down: true, Fuse: -1},
		"and no fuse left":   {Files: []api.File{x, f}},
	}
}

// Row does calls one by one, till one is refused.
func Row(d api.Disk, list ...Call) (api.Disk, api.Errno) {
	for _, c := range list {
		var why api.Errno
		if d, why = c(d); why != api.OK {
			return d, why
		}
	}
	return d, api.OK
}

// Rewrite is what the chapters say of a file of d that is written anew, change by change.
func Rewrite(d api.Disk, file, undone, content string) []Call {
	list := []Call{
		func(d api.Disk) (api.Disk, api.Errno) { return disk.Add(d, undone, content) },
		func(d api.Disk) (api.Disk, api.Errno) { return disk.Sync(d, undone) },
		func(d api.Disk) (api.Disk, api.Errno) { return disk.Swap(d, undone, file) },
	}
	if slices.ContainsFunc(d.Files, func(f api.File) bool { return f.Name == undone }) {
		list = slices.Insert(list, 0, func(d api.Disk) (api.Disk, api.Errno) { return disk.Drop(d, undone) })
	}
	return list
}

// Differs holds a call against the changes of d that it is to do, whenever the power goes: so each of them is done, in that order, and no other. It tells what is another one, or nothing.
func Differs(d api.Disk, call Call, list ...Call) string {
	for fuse := -1; fuse <= len(list)+1; fuse++ {
		given := Fused(d, fuse)
		want, no := Row(given, list...)
		got, why := call(given)
		about := "fuse " + strconv.Itoa(fuse) + ": " + Brief(got) + ", error " + strconv.Itoa(int(why))
		switch {
		case !Same(got, want) || why != no:
			return about + "; not " + Brief(want) + ", error " + strconv.Itoa(int(no))
		case fuse == len(list) && (got.Fuse != 0 || why != api.OK):
			return about + "; not all is done"
		case !Same(given, Fused(d, fuse)):
			return about + "; what was handed in is changed"
		}
	}
	return ""
}

// Refuses holds a call against an error that comes ahead of all changes, whatever d's fuse is: the disk is to be told as it was, or zero, if it is not right. It tells what is another one, or nothing.
func Refuses(d api.Disk, call Call, why api.Errno) string {
	for _, fuse := range []int{-1, 0, 1, 9} {
		given := Fused(d, fuse)
		want := Clone(given)
		if disk.Check(d) != api.OK {
			want = api.Disk{}
		}
		got, no := call(given)
		about := "fuse " + strconv.Itoa(fuse) + ": " + Brief(got) + ", error " + strconv.Itoa(int(no))
		switch {
		case !Same(got, want) || no != why:
			return about + "; not " + Brief(want) + ", error " + strconv.Itoa(int(why))
		case !Same(given, Fused(d, fuse)):
			return about + "; what was handed in is changed"
		}
	}
	return ""
}

// Down is d without power.
func Down(d api.Disk) api.Disk {
	d = Clone(d)
	d.Down = true
	return d
}

// Shares tells what memory a call's answer shares, whatever d's fuse is, or nothing: with an earlier answer, with what was handed in, or with the room behind that.
func Shares(d api.Disk, call Call) string {
	for fuse := -1; fuse < 6; fuse++ {
		room := slices.Concat(d.Files, Many(5))
		given := Fused(d, fuse)
		given.Files = room[:len(d.Files):len(room)]
		whole := slices.Clone(room)
		first, why := call(given)
		told := Clone(first)
		again, no := call(given)
		about := "fuse " + strconv.Itoa(fuse) + ": "
		if !Same(again, first) || why != no {
			return about + "asked again it is another one"
		}
		spoil(again.Files)
		if !slices.Equal(room, whole) || !Same(first, told) {
			return about + "the answer shares memory"
		}
		spoil(room)
		if !Same(first, told) {
			return about + "the answer shares memory with what was handed in"
		}
	}
	return ""
}

// spoil writes all over a list, and the room behind it.
func spoil(files []api.File) {
	files = files[:cap(files)]
	for i := range files {
		files[i] = api.File{Name: "spoilt", Data: "spoilt", Synced: 1}
	}
}
