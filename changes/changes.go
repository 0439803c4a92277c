// Package changes does changes of a disk one by one, for the layers that keep something there.
package changes

import (
	"slices"

	"gaffer/api"
	"gaffer/disk"
)

// Change is one that a disk does, or tells why it does not.
type Change func(d api.Disk) (api.Disk, api.Errno)

// Do does them in their order; the first error stops them, and the disk is told as it is then.
func Do(d api.Disk, list ...Change) (api.Disk, api.Errno) {
	d.Files = slices.Clone(d.Files) // new memory, even if there is nothing to do
	for _, change := range list {
		var why api.Errno
		if d, why = change(d); why != api.OK {
			return d, why
		}
	}
	return d, api.OK
}

// None is the disk beside an error that comes ahead of all changes: as it was, or zero, if it is not right.
func None(d api.Disk) api.Disk {
	if disk.Check(d) != api.OK {
		return api.Disk{}
	}
	d.Files = slices.Clone(d.Files)
	return d
}
