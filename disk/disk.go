// Package disk has a disk of files: see ../../shared/DOC.md and doc/02-disk.md.
package disk

import (
	"slices"
	"sort"
	"strings"

	"gaffer/api"
)

type kind uint8

const (
	kindAdd kind = iota
	kindSync
	kindCut
	kindSwap
	kindDrop
)

// change is what is to be done to a file; fields that its kind has not are zero.
type change struct {
	kind kind
	name string
	data string // of an Add
	size int    // of a Cut
	to   string // of a Swap
}

// Check tells why one is not right; Read and Names ask it; Add, Sync, Cut, Swap and Drop change it; Crash is what is left.
func Check(d api.Disk) api.Errno {
	if len(d.Files) > api.MaxFiles {
		return api.ErrState
	}
	for i, f := range d.Files {
		if i > 0 && d.Files[i-1].Name >= f.Name {
			return api.ErrState
		}
		if f.Synced < 0 || f.Synced > len(f.Data) {
			return api.ErrState
		}
	}
	return api.OK
}

func Read(d api.Disk, name string) (string, api.Errno) {
	if why := ready(d); why != api.OK {
		return "", why
	}
	at, there := find(d.Files, name)
	if !there {
		return "", api.ErrNone
	}
	return d.Files[at].Data, api.OK
}

func Names(d api.Disk, prefix string) ([]string, api.Errno) {
	if why := ready(d); why != api.OK {
		return nil, why
	}
	var names []string
	for _, f := range d.Files {
		if strings.HasPrefix(f.Name, prefix) {
			names = append(names, f.Name)
		}
	}
	return names, api.OK
}

func Add(d api.Disk, name, data string) (api.Disk, api.Errno) {
	return do(d, change{kind: kindAdd, name: name, data: data})
}

func Sync(d api.Disk, name string) (api.Disk, api.Errno) {
	return do(d, change{kind: kindSync, name: name})
}

func Cut(d api.Disk, name string, size int) (api.Disk, api.Errno) {
	return do(d, change{kind: kindCut, name: name, size: size})
}

func Swap(d api.Disk, from, to string) (api.Disk, api.Errno) {
	return do(d, change{kind: kindSwap, name: from, to: to})
}

func Drop(d api.Disk, name string) (api.Disk, api.Errno) {
	return do(d, change{kind: kindDrop, name: name})
}

func Crash(d api.Disk, keep []int) (api.Disk, api.Errno) {
	if why := Check(d); why != api.OK {
		return api.Disk{}, why
	}
	left := slices.Clone(d.Files)
files:
	for i := range left {
		f := &left[i]
		switch behind := len(f.Data) - f.Synced; {
		case i >= len(keep) || keep[i] <= 0:
			// What is synced is the least that is left.
		case keep[i] < behind:
			f.Synced += keep[i]
		default:
			f.Synced = len(f.Data)
			continue files // nothing of it is lost
		}
		f.Data = f.Data[:f.Synced]
	}
	return api.Disk{Files: left, Fuse: -1}, api.OK
}

func ready(d api.Disk) api.Errno {
	if why := Check(d); why != api.OK {
		return why
	}
	if d.Down {
		return api.ErrPower
	}
	return api.OK
}

// find halves, for the files of a right disk rise by name.
func find(files []api.File, name string) (int, bool) {
	at := sort.Search(len(files), func(i int) bool { return files[i].Name >= name })
	return at, at < len(files) && files[at].Name == name
}

func do(d api.Disk, c change) (api.Disk, api.Errno) {
	if why := Check(d); why != api.OK {
		return api.Disk{}, why
	}
	// Told beside an error too, the disk must be new memory.
	d.Files = slices.Clone(d.Files)
	if d.Down {
		return d, api.ErrPower
	}
	if why := refuse(d.Files, c); why != api.OK {
		return d, why
	}
	if d.Fuse == 0 {
		if c.kind == kindAdd { // its bytes are under way already, and nothing says yet that they last
			d.Files = changed(d.Files, c)
		}
		d.Down = true
		return d, api.ErrPower
	}
	d.Files = changed(d.Files, c)
	if d.Fuse > 0 {
		d.Fuse--
	}
	return d, api.OK
}

func refuse(files []api.File, c change) api.Errno {
	at, there := find(files, c.name)
	switch {
	case c.kind == kindAdd:
		return refuseAdd(files, c.name, there)
	case !there:
		return api.ErrNone
	case c.kind == kindCut && (c.size < 0 || c.size > len(files[at].Data)):
		return api.ErrRange
	case c.kind == kindSwap && files[at].Synced < len(files[at].Data):
		return api.ErrWet
	case c.kind == kindSwap && !mayName(c.to):
		return api.ErrName
	}
	return api.OK
}

func refuseAdd(files []api.File, name string, there bool) api.Errno {
	switch {
	case !mayName(name):
		return api.ErrName
	case !there && len(files) >= api.MaxFiles:
		return api.ErrFull
	}
	return api.OK
}

// mayName is not asked of the files that are there: a disk made by hand is right with any names.
func mayName(name string) bool {
	return name != "" && len(name) <= api.MaxName
}

// changed may write into files, which must be the caller's own.
func changed(files []api.File, c change) []api.File {
	at, there := find(files, c.name)
	switch c.kind {
	case kindAdd:
		if !there {
			files = slices.Insert(files, at, api.File{Name: c.name})
		}
		files[at].Data += c.data
	case kindSync:
		files[at].Synced = len(files[at].Data)
	case kindCut:
		files[at].Data = files[at].Data[:c.size]
		files[at].Synced = min(files[at].Synced, c.size)
	case kindSwap:
		f := files[at]
		f.Name = c.to
		return put(slices.Delete(files, at, at+1), f)
	case kindDrop:
		return slices.Delete(files, at, at+1)
	}
	return files
}

func put(files []api.File, f api.File) []api.File {
	at, there := find(files, f.Name)
	if there {
		files[at] = f
		return files
	}
	return slices.Insert(files, at, f)
}
