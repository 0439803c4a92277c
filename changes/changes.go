// Package changes does changes of a disk one by one, for the layers that keep something there.
package changes

import (
	"slices"

	"gaffer/api"
	"gaffer/disk"
)

// Change is one that a disk does, or tells why it does not.
type Change func(d api.Disk) (api.Disk, api.Errno)

// Do does them in their order; the first error stops them, and the disk is told as it is then.
func Do(d api.Disk, list ...Change) (api.Disk, api.Errno) {
	d.Files = slices.Clone(d.Files) // new memory, even if there is nothing to do
	for _, change := range list {
		var why api.Errno
		if d, why = change(d); why != api.OK {
			return d, why
		}
	}
	return d, api.OK
}

// Rewrite are the changes that give a file new content. It stands in another one, till all of it lasts: so a crash leaves the old content, or the new.
func Rewrite(file, undone, content string) []Change {
	return []Change{
		func(d api.Disk) (api.Disk, api.Errno) {
			if _, why := disk.Read(d, undone); why == api.ErrNone {
				return d, api.OK
			}
			return disk.Drop(d, undone)
		},
		func(d api.Disk) (api.Disk, api.Errno) { return disk.Add(d, undone, content) },
		func(d api.Disk) (api.Disk, api.Errno) { return disk.Sync(d, undone) },
		func(d api.Disk) (api.Disk, api.Errno) { return disk.Swap(d, undone, file) },
	}
}

// None is the disk beside an error that comes ahead of all changes: as it was, or zero, if it is not right.
func None(d api.Disk) api.Disk {
	if disk.Check(d) != api.OK {
		return api.Disk{}
	}
	d.Files = slices.Clone(d.Files)
	return d
}
