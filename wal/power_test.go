package wal_test

import (
	"fmt"
	"math/rand"
	"slices"
	"testing"

	"gaffer/api"
	"gaffer/disk"
	"gaffer/wal"
)

// crashes are all that a crash may leave of d: for each file nothing, some, or all of what is not synced.
func crashes(t *testing.T, d api.Disk) []api.Disk {
	t.Helper()
	var list []api.Disk
	keep := make([]int, len(d.Files))
	left := func() {
		e, why := disk.Crash(d, keep)
		if why != api.OK {
			t.Fatalf("Crash of %s: error %d", brief(d), why)
		}
		list = append(list, e)
	}
	left()
	for i, f := range d.Files {
		for behind := range len(f.Data) - f.Synced {
			keep[i] = behind + 1
			left()
		}
	}
	return list
}

// powers does a call, whenever the power goes, and tells of all that a crash may leave then what is opened; want is of the call that was let do all.
func powers(t *testing.T, what string, d api.Disk, call change, may func(l []api.Entry) bool, want []api.Entry) {
	t.Helper()
	for fuse := 0; ; fuse++ {
		x := clone(d)
		x.Fuse = fuse
		x, why := call(x)
		if x.Down != (why == api.ErrPower) || why != api.OK && why != api.ErrPower {
			t.Fatalf("%s, fuse %d: %s, error %d", what, fuse, brief(x), why)
		}
		for _, left := range crashes(t, x) {
			e, l, no := wal.Open(left)
			if no != api.OK || !may(l) || why == api.OK && !equals(l, want) {
				t.Fatalf("%s, fuse %d: behind the crash %d entries, or others; errors %d, %d", what, fuse, len(l), why, no)
			}
			holds(t, what+", opened", e, l)
		}
		if why == api.OK {
			return
		}
	}
}

// 3.7: of an Append; and behind the crash what is not there yet can be appended again.
func TestPowerAppend(t *testing.T) {
	for _, from := range []uint64{1, 7} {
		for there := range 10 {
			for _, tail := range []string{"", "\x00\x00", content(some(1, 1)...)[:7]} {
				old := some(from, there)
				d, _ := wal.Append(api.Disk{Fuse: -1}, old)
				if tail != "" && there == 0 {
					continue
				} else if tail != "" {
					d = torn(d, tail)
				}
				for more := range 11 {
					all := some(from, there+more)
					what := fmt.Sprintf("%d behind %d, torn %q", more, there, tail)
					powers(t, what, d, appends(all[there:]...), func(l []api.Entry) bool {
						return len(l) >= there && len(l) <= len(all) && equals(l, all[:len(l)])
					}, all)
				}
			}
		}
	}
}

// 3.7: what a crash in an Append left is gone on with as if it had been so from the beginning.
func TestPowerAgain(t *testing.T) {
	all := some(1, 11)
	for there := range 7 {
		d, _ := wal.Append(api.Disk{Fuse: -1}, all[:there])
		for fuse := range 14 {
			x := clone(d)
			x.Fuse = fuse
			x, _ = wal.Append(x, all[there:])
			for _, left := range crashes(t, x) {
				l, _ := wal.Load(left)
				e, why := wal.Append(left, all[len(l):])
				holds(t, "appended again", e, all)
				f, no := opens(left)
				f, also := wal.Append(f, all[len(l):])
				holds(t, "opened, and appended again", f, all)
				if why != api.OK || no != api.OK || also != api.OK {
					t.Fatalf("%d there, fuse %d: errors %d, %d, %d", there, fuse, why, no, also)
				}
			}
		}
	}
}

// 3.7: of a Cut.
func TestPowerCut(t *testing.T) {
	for there := range 14 {
		for _, tail := range []string{"", "xy"} {
			all := some(3, there)
			d, _ := wal.Append(api.Disk{Fuse: -1}, all)
			if there > 0 {
				d = torn(d, tail)
			}
			for from := range uint64(there) + 5 {
				stay := min(there, int(max(from, 3))-3)
				powers(t, fmt.Sprintf("cut from %d of %d", from, there), d, cuts(from), func(l []api.Entry) bool {
					return len(l) >= stay && len(l) <= there && equals(l, all[:len(l)])
				}, all[:stay])
			}
		}
	}
}

// 3.7: of a Trim.
func TestPowerTrim(t *testing.T) {
	for there := range 18 {
		all := some(3, there)
		d, _ := wal.Append(api.Disk{Fuse: -1}, all)
		for upto := range uint64(there) + 5 {
			gone := 0
			for gone+4 < there && all[gone+3].Index <= upto {
				gone += 4
			}
			powers(t, fmt.Sprintf("trimmed up to %d of %d", upto, there), d, trims(upto), func(l []api.Entry) bool {
				at := there - len(l)
				return at >= 0 && at <= gone && equals(l, all[at:])
			}, all[gone:])
		}
	}
}

// And of an Open: whatever the power does to it, the log is what it was.
func TestPowerOpen(t *testing.T) {
	for there := 1; there < 10; there++ {
		all := some(3, there)
		d, _ := wal.Append(api.Disk{Fuse: -1}, all)
		powers(t, "opened", torn(d, "xyz"), opens, func(l []api.Entry) bool { return equals(l, all) }, all)
	}
}

// 3.6 and 3.7 of long rows of calls and crashes, each held against a list of entries.
func TestLongRows(t *testing.T) {
	draw := rand.New(rand.NewSource(4))
	for row := range 300 {
		d := api.Disk{Fuse: draw.Intn(30) - 1}
		from := 1 + uint64(draw.Intn(40))
		next := from
		var list []api.Entry
		for step := range 60 {
			what := fmt.Sprintf("row %d, step %d", row, step)
			var why api.Errno
			least, greatest := slices.Clone(list), slices.Clone(list)
			switch kind := draw.Intn(8); {
			case kind < 4:
				l := some(next, draw.Intn(7))
				greatest = append(greatest, l...)
				if d, why = wal.Append(d, l); why == api.OK {
					list = greatest
				}
			case kind < 5:
				at := draw.Intn(len(list) + 1)
				least = list[:at]
				if d, why = wal.Cut(d, next-uint64(len(list)-at)); why == api.OK {
					list = least
				}
			case kind < 6:
				least = list[trimmed(list, draw.Intn(len(list)+1)):]
				upto := next - 1 - uint64(len(least))
				if d, why = wal.Trim(d, upto); why == api.OK {
					list = least
				}
			case kind < 7:
				d, why = opens(d)
			default:
				d.Down, why = true, api.ErrPower
			}
			if why != api.OK {
				d, list = fallen(t, what, d, least, greatest, draw)
			}
			holds(t, what, d, list)
			if t.Failed() {
				return
			}
			next = from
			if names, _ := disk.Names(d, "w/"); len(names) > 0 {
				fmt.Sscanf(names[len(names)-1], "w/%016x", &next)
			}
			if len(list) > 0 {
				next = list[len(list)-1].Index + 1
			}
		}
	}
}

// trimmed tells how many of the first entries a Trim up to the n-th may take: whole segments, which begin behind each fourth one.
func trimmed(l []api.Entry, n int) int {
	gone := 0
	for gone+4 < len(l) && gone+4 <= n {
		gone += 4
	}
	return gone
}

// fallen is what is opened behind a crash: what lies between both lists.
func fallen(t *testing.T, what string, d api.Disk, least, greatest []api.Entry, draw *rand.Rand) (api.Disk, []api.Entry) {
	t.Helper()
	keep := make([]int, len(d.Files))
	for i := range keep {
		keep[i] = draw.Intn(60) - 10
	}
	left, _ := disk.Crash(d, keep)
	left, l, why := wal.Open(left)
	if why != api.OK || !within(l, least, greatest) {
		t.Fatalf("%s: opened are %d entries, not from %d to %d; error %d", what, len(l), len(least), len(greatest), why)
	}
	left.Fuse = draw.Intn(30) - 1
	return left, l
}

// within tells whether l is a run of greatest in which all of least stands.
func within(l, least, greatest []api.Entry) bool {
	for at := range len(greatest) - len(l) + 1 {
		if !equals(l, greatest[at:at+len(l)]) {
			continue
		}
		for in := range len(l) - len(least) + 1 {
			if equals(l[in:in+len(least)], least) {
				return true
			}
		}
	}
	return false
}
