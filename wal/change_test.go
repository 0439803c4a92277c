package wal_test

import (
	"fmt"
	"testing"

	"gaffer/api"
	"gaffer/disk"
	"gaffer/disktest"
	"gaffer/wal"
)

// puts is an entry's put each, all to one segment.
func puts(first uint64, l ...api.Entry) []change {
	var list []change
	for _, e := range l {
		list = append(list, put(first, e))
	}
	return list
}

func joined(lists ...[]change) []change {
	var all []change
	for _, l := range lists {
		all = append(all, l...)
	}
	return all
}

func one(list ...change) []change { return list }

// 3.3: which changes an Append does, in which order.
func TestAppend(t *testing.T) {
	others := []api.File{{Name: "hard", Data: "xy", Synced: 1}, {Name: "x", Data: "xy"}}
	empty := with(cutUp(1, 4), file(name(5), ""))
	wet := cutUp(1, 4, 3)
	wet.Files[0].Synced, wet.Files[1].Synced = 2, 0
	for _, s := range []step{
		{"the first of all", disks(), appends(some(1, 1)...), joined(puts(1, some(1, 1)...), one(sync(1)))},
		{"a whole segment", disks(), appends(some(1, 4)...), joined(puts(1, some(1, 4)...), one(sync(1)))},
		{"the example", disks(), appends(some(1, 5)...), joined(puts(1, some(1, 4)...), one(sync(1)), puts(5, some(5, 1)...), one(sync(5)))},
		{"from any Index", disks(others...), appends(some(6, 9)...), joined(puts(6, some(6, 4)...), one(sync(6)), puts(10, some(10, 4)...), one(sync(10)), puts(14, some(14, 1)...), one(sync(14)))},
		{"from the last Index", disks(), appends(lead(most)), joined(puts(most, lead(most)), one(sync(most)))},
		{"up to the last Index", cutUp(most-4, 4), appends(lead(most)), joined(one(sync(most-4)), puts(most, lead(most)), one(sync(most)))},
		{"there is room", cutUp(1, 3), appends(some(4, 1)...), joined(puts(1, some(4, 1)...), one(sync(1)))},
		{"there is room for one of two", cutUp(1, 3), appends(some(4, 2)...), joined(puts(1, some(4, 1)...), one(sync(1)), puts(5, some(5, 1)...), one(sync(5)))},
		{"there is no room", cutUp(1, 4), appends(some(5, 1)...), joined(one(sync(1)), puts(5, some(5, 1)...), one(sync(5)))},
		{"behind others", with(cutUp(5, 4, 4, 2), others...), appends(some(15, 3)...), joined(puts(13, some(15, 2)...), one(sync(13)), puts(17, some(17, 1)...), one(sync(17)))},
		{"behind short ones", cutUp(1, 2, 1, 2), appends(some(6, 3)...), joined(puts(4, some(6, 2)...), one(sync(4)), puts(8, some(8, 1)...), one(sync(8)))},
		{"one without entries", empty, appends(some(5, 5)...), joined(puts(5, some(5, 4)...), one(sync(5)), puts(9, some(9, 1)...), one(sync(9)))},
		{"one alone without entries", disks(file(name(9), "")), appends(some(9, 1)...), joined(puts(9, some(9, 1)...), one(sync(9)))},
		{"not synced", wet, appends(some(8, 2)...), joined(puts(5, some(8, 1)...), one(sync(5)), puts(9, some(9, 1)...), one(sync(9)))},
		{"torn", torn(cutUp(1, 2), "x"), appends(some(3, 1)...), joined(one(cut(1, some(1, 2)...)), puts(1, some(3, 1)...), one(sync(1)))},
		{"torn, with a whole one behind", torn(cutUp(1, 4, 2), "\x00"+content(some(7, 1)...)), appends(some(7, 3)...), joined(one(cut(5, some(5, 2)...)), puts(5, some(7, 2)...), one(sync(5)), puts(9, some(9, 1)...), one(sync(9)))},
		{"torn, without room", torn(cutUp(1, 4), "x"), appends(some(5, 2)...), joined(one(cut(1, some(1, 4)...), sync(1)), puts(5, some(5, 2)...), one(sync(5)))},
		{"all torn", disks(file(name(7), "xyz")), appends(some(7, 2)...), joined(one(cut(7)), puts(7, some(7, 2)...), one(sync(7)))},
		{"none", cutUp(1, 4, 2), appends(), nil},
		{"none, no log", disks(others...), appends(), nil},
		{"none, and torn", torn(cutUp(1, 4, 2), "x"), appends(), nil},
		{"none, not synced", wet, appends(), nil},
	} {
		s.look(t)
		before, _ := wal.Load(s.d)
		after, why := s.call(s.d)
		if l, no := wal.Load(after); len(l) < len(before) || !equals(l[:len(before)], before) || why != api.OK || no != api.OK {
			t.Errorf("%s: loaded behind it are %d entries, errors %d, %d", s.what, len(l), why, no)
		}
	}
}

// refuses holds a refused Append against its error: nothing is done, whatever the fuse.
func refuses(t *testing.T, what string, d api.Disk, l []api.Entry, want api.Errno) {
	t.Helper()
	if differs := disktest.Refuses(d, appends(l...), want); differs != "" {
		t.Errorf("%s, %s", what, differs)
	}
}

// 3.3: what an Append refuses, and what comes first.
func TestAppendRefused(t *testing.T) {
	logs := map[string]api.Disk{"nothing": disks(), "a log": cutUp(1, 4, 2), "a full one": cutUp(1, 4), "torn": torn(cutUp(3, 2), "x"), "no entries": disks(file(name(7), ""))}
	for what, d := range logs {
		for i, e := range wrongs() {
			refuses(t, fmt.Sprintf("%s, wrong, %d", what, i), d, []api.Entry{e}, api.ErrForm)
			refuses(t, fmt.Sprintf("%s, wrong and out of order, %d", what, i), d, []api.Entry{lead(70), lead(70), e, lead(2)}, api.ErrForm)
		}
		for i, l := range [][]api.Entry{{lead(7), lead(7)}, {lead(7), lead(9)}, {lead(7), lead(6)}, {lead(7), lead(8), lead(10)}, {lead(most), lead(1)}, {lead(7), lead(8), lead(9), lead(10), lead(11), lead(11)}} {
			refuses(t, fmt.Sprintf("%s, in no row, %d", what, i), d, l, api.ErrOrder)
		}
	}
	for what, one := range map[string]struct {
		d    api.Disk
		next uint64
	}{
		"a log":                      {cutUp(1, 4, 2), 7},
		"a full one":                 {cutUp(1, 4), 5},
		"torn":                       {torn(cutUp(3, 2), "x"), 5},
		"no entries":                 {disks(file(name(7), "")), 7},
		"no entries, behind others":  {with(cutUp(1, 4), file(name(5), "")), 5},
		"all torn":                   {disks(file(name(7), "x")), 7},
		"torn, with a whole one":     {torn(cutUp(1, 1), "\x00"+content(lead(2))), 2},
		"up to the last Index":       {cutUp(most-1, 2), 0},
		"no entries, the last Index": {disks(file(name(most), "")), most},
	} {
		for _, first := range []uint64{1, 2, one.next - 1, one.next + 1, one.next + 4, most} {
			if first != one.next && first != 0 {
				refuses(t, fmt.Sprintf("%s, from %d", what, first), one.d, []api.Entry{lead(first)}, api.ErrOrder)
			}
		}
		if one.next == 0 {
			continue
		}
		if _, why := wal.Append(one.d, []api.Entry{lead(one.next)}); why != api.OK {
			t.Errorf("%s, from %d: error %d", what, one.next, why)
		}
	}
}

// 3.3: an error of a change stops an Append; the disk is told as it is then.
func TestAppendFull(t *testing.T) {
	var others []api.File
	for i := range api.MaxFiles - 2 {
		others = append(others, file(fmt.Sprintf("x%04d", i), ""))
	}
	d := with(cutUp(1, 2), others...)
	e, why := wal.Append(d, some(3, 9))
	want := cutUp(1, 4, 4)
	if !same(e, with(want, others...)) || why != api.ErrFull {
		t.Errorf("one more segment: %s, error %d", brief(e), why)
	}
	holds(t, "behind ErrFull", e, some(1, 8))
	refuses(t, "no segment", disks(append(others, file("y", ""), file("z", ""))...), some(1, 2), api.ErrFull)
	e, why = wal.Append(e, some(9, 1))
	if !same(e, with(want, others...)) || why != api.ErrFull {
		t.Errorf("again: %s, error %d", brief(e), why)
	}
}

// 3.4: which changes a Cut does, in which order.
func TestCut(t *testing.T) {
	others := []api.File{{Name: "hard", Data: "xy", Synced: 1}, {Name: "x", Data: "xy"}}
	log := with(cutUp(3, 4, 4, 2), others...)
	empty := with(cutUp(1, 4), file(name(5), ""))
	wet := cutUp(3, 4, 2)
	wet.Files[0].Synced, wet.Files[1].Synced = 2, 1
	for _, s := range []step{
		{"no log", disks(others...), cuts(1), nil},
		{"from 0", log, cuts(0), one(drop(11), drop(7), drop(3))},
		{"from below", log, cuts(1), one(drop(11), drop(7), drop(3))},
		{"from the first", log, cuts(3), one(drop(11), drop(7), drop(3))},
		{"from the second", log, cuts(4), one(drop(11), drop(7), cut(3, some(3, 1)...), sync(3))},
		{"from the last of the first segment", log, cuts(6), one(drop(11), drop(7), cut(3, some(3, 3)...), sync(3))},
		{"from a segment's first", log, cuts(7), one(drop(11), drop(7))},
		{"within the second segment", log, cuts(9), one(drop(11), cut(7, some(7, 2)...), sync(7))},
		{"from the last segment's first", log, cuts(11), one(drop(11))},
		{"the last one", log, cuts(12), one(cut(11, some(11, 1)...), sync(11))},
		{"behind the end", log, cuts(13), nil},
		{"far behind the end", log, cuts(1 << 40), nil},
		{"from the last Index", log, cuts(most), nil},
		{"the last Index", cutUp(most-4, 4, 1), cuts(most), one(drop(most))},
		{"the last Index, within", cutUp(most-1, 2), cuts(most), one(cut(most-1, some(most-1, 1)...), sync(most-1))},
		{"torn, behind the end", torn(cutUp(1, 2), "x"), cuts(3), nil},
		{"torn, the last one", torn(cutUp(1, 2), "x"), cuts(2), one(cut(1, some(1, 1)...), sync(1))},
		{"torn, all", torn(cutUp(1, 2), "x"), cuts(1), one(drop(1))},
		{"torn, the one ahead", torn(cutUp(1, 4, 2), "x"), cuts(4), one(drop(5), cut(1, some(1, 3)...), sync(1))},
		{"no entries, behind", empty, cuts(6), nil},
		{"no entries, its own", empty, cuts(5), one(drop(5))},
		{"no entries, ahead", empty, cuts(4), one(drop(5), cut(1, some(1, 3)...), sync(1))},
		{"no entries, alone", disks(file(name(7), "")), cuts(1), one(drop(7))},
		{"all torn, alone", disks(file(name(7), "x")), cuts(7), one(drop(7))},
		{"all torn, alone, behind", disks(file(name(7), "x")), cuts(8), nil},
		{"short segments", cutUp(1, 1, 2, 3), cuts(3), one(drop(4), cut(2, some(2, 1)...), sync(2))},
		{"not synced", wet, cuts(8), one(cut(7, some(7, 1)...), sync(7))},
		{"not synced, nothing to cut", wet, cuts(9), nil},
	} {
		s.look(t)
	}
	for from := range uint64(16) {
		d, why := wal.Cut(log, from)
		if why != api.OK {
			t.Errorf("from %d: error %d", from, why)
		}
		holds(t, fmt.Sprintf("cut from %d", from), d, some(3, int(max(3, min(from, 13)))-3))
	}
}

// 3.4: which changes a Trim does, in which order.
func TestTrim(t *testing.T) {
	others := []api.File{{Name: "hard", Data: "xy", Synced: 1}, {Name: "x", Data: "xy"}}
	log := with(cutUp(3, 4, 4, 2), others...)
	for _, s := range []step{
		{"no log", disks(others...), trims(most), nil},
		{"up to 0", log, trims(0), nil},
		{"up to the first", log, trims(3), nil},
		{"one ahead of a segment's last", log, trims(5), nil},
		{"a segment's last", log, trims(6), one(drop(3))},
		{"within the second", log, trims(9), one(drop(3))},
		{"both", log, trims(10), one(drop(3), drop(7))},
		{"all that there are", log, trims(12), one(drop(3), drop(7))},
		{"more", log, trims(most), one(drop(3), drop(7))},
		{"the last one is full", cutUp(1, 4, 4), trims(8), one(drop(1))},
		{"the last one is full, more", cutUp(1, 4, 4), trims(most), one(drop(1))},
		{"a full one alone", cutUp(1, 4), trims(most), nil},
		{"one without entries behind", with(cutUp(1, 4), file(name(5), "")), trims(most), one(drop(1))},
		{"one that is torn behind", torn(cutUp(1, 4, 4, 1), "x"), trims(8), one(drop(1), drop(5))},
		{"one alone without entries", disks(file(name(7), "")), trims(most), nil},
		{"one alone that is torn", disks(file(name(7), "x")), trims(most), nil},
		{"where numbers end", cutUp(most-4, 4, 1), trims(most), one(drop(most - 4))},
		{"one that is not full is first", cutUp(1, 3, 1), trims(most), nil},
		{"one that is not full is second", cutUp(1, 4, 3, 1), trims(most), one(drop(1))},
		{"one that is not full is second, a full one behind it", cutUp(1, 4, 2, 4, 1), trims(most), one(drop(1))},
	} {
		s.look(t)
	}
	for upto := range uint64(16) {
		d, why := wal.Trim(log, upto)
		if why != api.OK {
			t.Errorf("up to %d: error %d", upto, why)
		}
		gone := 0
		if upto >= 6 {
			gone = 4
		}
		if upto >= 10 {
			gone = 8
		}
		holds(t, fmt.Sprintf("trimmed up to %d", upto), d, some(3, 10)[gone:])
	}
}

// DOC.md's limits: a disk that is full of segments.
func TestManySegments(t *testing.T) {
	var files []api.File
	for i := range uint64(api.MaxFiles - 1) {
		first := 4*i + 1
		files = append(files, file(name(first), content(lead(first), lead(first+1), lead(first+2), lead(first+3))))
	}
	d := disks(files...)
	next := uint64(4*len(files) + 1)
	d, why := wal.Append(d, some(next, 4))
	if len(d.Files) != api.MaxFiles || why != api.OK {
		t.Errorf("the last segment: %d files, error %d", len(d.Files), why)
	}
	e, why := wal.Append(d, some(next+4, 1))
	if !same(e, d) || why != api.ErrFull {
		t.Errorf("one segment more: %d files, error %d", len(e.Files), why)
	}
	e, why = wal.Trim(d, next)
	if names, _ := disk.Names(e, "w/"); len(names) != 1 || names[0] != name(next) || why != api.OK {
		t.Errorf("trimmed: %d segments, error %d", len(names), why)
	}
	e, why = wal.Cut(d, 6)
	if l, no := wal.Load(e); len(l) != 5 || why != api.OK || no != api.OK {
		t.Errorf("cut: %d entries, errors %d, %d", len(l), why, no)
	}
}

// DOC.md's P3: nil and empty lists are alike.
func TestNilAndEmpty(t *testing.T) {
	for what, c := range map[string]change{"Open": opens, "Append": appends(some(1, 5)...), "Append of none": appends(), "Cut": cuts(1), "Trim": trims(1)} {
		for _, fuse := range []int{-1, 0, 1} {
			a, why := c(api.Disk{Fuse: fuse})
			b, no := c(api.Disk{Files: []api.File{}, Fuse: fuse})
			if !same(a, b) || why != no {
				t.Errorf("%s, fuse %d: %s, error %d; %s, error %d", what, fuse, brief(a), why, brief(b), no)
			}
		}
	}
	a, why := wal.Append(api.Disk{}, nil)
	b, no := wal.Append(api.Disk{}, []api.Entry{})
	if !same(a, b) || why != api.OK || no != api.OK {
		t.Errorf("no entries: errors %d, %d", why, no)
	}
}
