package wal_test

import (
	"fmt"
	"math"
	"math/rand"
	"testing"

	"gaffer/api"
	"gaffer/disk"
	"gaffer/disktest"
	"gaffer/logtest"
	"gaffer/pack"
	"gaffer/wal"
)

const (
	most   = math.MaxUint64
	maxBig = 4096 // bytes of an order's Data
)

func lead(index uint64) api.Entry {
	return api.Entry{Index: index, Term: 2, Kind: api.EntryLead}
}

func order(index uint64, data string) api.Entry {
	return api.Entry{Index: index, Term: 3, Kind: api.EntryOrder, Data: data}
}

func members(index uint64, list ...int) api.Entry {
	return api.Entry{Index: index, Term: 4, Kind: api.EntryMembers, Members: list}
}

// some are n entries, of all kinds and of different lengths.
func some(from uint64, n int) []api.Entry {
	var l []api.Entry
	for i := range uint64(n) {
		switch at := from + i; at % 3 {
		case 0:
			l = append(l, lead(at))
		case 1:
			l = append(l, order(at, "data of "+fmt.Sprint(at)))
		default:
			l = append(l, members(at, 1, 2+int(at%5), 7))
		}
	}
	return l
}

// raw is an entry's bytes, right or not: the numbers are Index, Term and Kind.
func raw(index, term, kind uint64, data string, list ...uint64) string {
	s := pack.Number(index) + pack.Number(term) + pack.Number(kind) + pack.Text(data) + pack.Number(uint64(len(list)))
	for _, m := range list {
		s += pack.Number(m)
	}
	return s
}

func bytesOf(e api.Entry) string {
	var list []uint64
	for _, m := range e.Members {
		list = append(list, uint64(m))
	}
	return raw(e.Index, e.Term, uint64(e.Kind), e.Data, list...)
}

func frame(payload string) string {
	f, why := pack.Frame(payload)
	if why != api.OK {
		panic("a payload that is too long")
	}
	return f
}

// content is a segment's.
func content(l ...api.Entry) string {
	var s string
	for _, e := range l {
		s += frame(bytesOf(e))
	}
	return s
}

func name(first uint64) string { return fmt.Sprintf("w/%016x", first) }

// What the tests of all that has entries, or stands on a disk, have.
var (
	rights = logtest.RightEntries
	wrongs = logtest.WrongEntries
	copied = logtest.CloneEntries
	equal  = logtest.SameEntry
	equals = logtest.SameEntries
	file   = disktest.File
	disks  = disktest.Of
	with   = disktest.With
	clone  = disktest.Clone
	same   = disktest.Same
	brief  = disktest.Brief
)

// segment is a file of these entries, and of what is torn behind them.
func segment(l []api.Entry, torn string) api.File {
	return file(name(l[0].Index), content(l...)+torn)
}

// cutUp is the disk of a log whose segments have so many entries each, the first one beginning at from.
func cutUp(from uint64, sizes ...int) api.Disk {
	var files []api.File
	for _, n := range sizes {
		files = append(files, file(name(from), content(some(from, n)...)))
		from += uint64(n)
	}
	return disks(files...)
}

// torn is d with some more in its last file.
func torn(d api.Disk, more string) api.Disk {
	d = clone(d)
	f := &d.Files[len(d.Files)-1]
	f.Data += more
	f.Synced = len(f.Data)
	return d
}

// change is one of the disk, or a whole call of wal's.
type change = disktest.Call

func put(first uint64, e api.Entry) change {
	return func(d api.Disk) (api.Disk, api.Errno) { return disk.Add(d, name(first), content(e)) }
}

func sync(first uint64) change {
	return func(d api.Disk) (api.Disk, api.Errno) { return disk.Sync(d, name(first)) }
}

func cut(first uint64, l ...api.Entry) change {
	return func(d api.Disk) (api.Disk, api.Errno) { return disk.Cut(d, name(first), len(content(l...))) }
}

func drop(first uint64) change {
	return func(d api.Disk) (api.Disk, api.Errno) { return disk.Drop(d, name(first)) }
}

func opens(d api.Disk) (api.Disk, api.Errno) {
	d, _, why := wal.Open(d)
	return d, why
}

func appends(l ...api.Entry) change {
	return func(d api.Disk) (api.Disk, api.Errno) { return wal.Append(d, l) }
}

func cuts(from uint64) change {
	return func(d api.Disk) (api.Disk, api.Errno) { return wal.Cut(d, from) }
}

func trims(upto uint64) change {
	return func(d api.Disk) (api.Disk, api.Errno) { return wal.Trim(d, upto) }
}

// step is a call, and the changes of the disk that it is to do.
type step struct {
	what string
	d    api.Disk
	call change
	list []change
}

func (s step) look(t *testing.T) {
	t.Helper()
	if differs := disktest.Differs(s.d, s.call, s.list...); differs != "" {
		t.Errorf("%s, %s", s.what, differs)
	}
}

// holds tells whether exactly these entries are loaded.
func holds(t *testing.T, what string, d api.Disk, want []api.Entry) {
	t.Helper()
	if l, why := wal.Load(d); !equals(l, want) || why != api.OK {
		t.Errorf("%s: loaded are %d entries, not %d, or others; error %d", what, len(l), len(want), why)
	}
}

func noise(draw *rand.Rand, size int) string {
	b := make([]byte, size)
	draw.Read(b)
	return string(b)
}
