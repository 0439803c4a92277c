package wal_test

import (
	"slices"
	"strings"
	"testing"

	"gaffer/api"
	"gaffer/disk"
	"gaffer/disktest"
	"gaffer/pack"
	"gaffer/wal"
)

// unable holds all calls that read the log first against an error of it: the disk is told as it is, or zero, if it is not right.
func unable(t *testing.T, what string, d api.Disk, want api.Errno) {
	t.Helper()
	if l, why := wal.Load(d); len(l) != 0 || why != want {
		t.Errorf("%s: Load: %d entries, error %d, not %d", what, len(l), why, want)
	}
	if _, l, _ := wal.Open(d); len(l) != 0 {
		t.Errorf("%s: Open: %d entries beside an error", what, len(l))
	}
	for call, c := range map[string]change{"Open": opens, "Append": appends(some(1, 1)...), "Append of none": appends(), "Append of a wrong one": appends(api.Entry{}), "Append out of order": appends(lead(9), lead(9)), "Cut": cuts(1), "Cut of all": cuts(0), "Cut of none": cuts(most), "Trim": trims(most), "Trim of none": trims(0)} {
		if differs := disktest.Refuses(d, c, want); differs != "" {
			t.Errorf("%s: %s, %s", what, call, differs)
		}
	}
}

// DOC.md's P1 and P2, 3.2 and 3.3: disks that are not right, or without power.
func TestState(t *testing.T) {
	var many []api.File
	for i := range uint64(api.MaxFiles + 1) {
		many = append(many, file(name(i+1), ""))
	}
	first, next := segment(some(1, 4), ""), segment(some(5, 1), "")
	for what, d := range map[string]api.Disk{
		"too many files":      {Files: many},
		"files that fall":     {Files: []api.File{next, first}},
		"twice":               {Files: []api.File{first, first}},
		"synced, more":        {Files: []api.File{{Name: name(1), Data: "x", Synced: 2}}},
		"synced, below 0":     {Files: []api.File{first, {Name: name(5), Synced: -1}}},
		"another file's":      {Files: []api.File{{Name: "a", Synced: 1}, first}},
		"and no segment's":    {Files: []api.File{{Name: "w/x", Synced: 1}}},
		"and without power":   {Files: []api.File{next, first}, Down: true},
		"and no segment's, 2": {Files: []api.File{{Name: "w/y"}, {Name: "w/x"}}},
	} {
		unable(t, what, d, api.ErrState)
	}
	for what, d := range map[string]api.Disk{
		"no files":    {},
		"a log":       disks(first, next),
		"no log":      disks(file(name(1), "x"), file(name(9), "")),
		"other files": disks(file("a", "x")),
		"a name":      disks(file("w/", "x")),
	} {
		d.Down = true
		unable(t, "without power: "+what, d, api.ErrPower)
	}
}

// Words: a segment's name. Whatever stands in the files, and in the log beside them.
func TestNames(t *testing.T) {
	for _, bad := range []string{"w/", "w/1", "w/000000000000001", "w/00000000000000001", "w/0000000000000000", "w/000000000000000A", "w/00000000000000AB", "w/000000000000000g", "w/ 000000000000001", "w/+000000000000001", "w/-000000000000001", "w/0x00000000000001", "w/0000_00000000001", "w/0000000000000001 ", "w/w/00000000000001", "w/w/0000000000000001", "w/0000000000000001.tmp", "w/fffffffffffffffff", "w/\x000000000000000001", "w/10000000000000000", "w/" + strings.Repeat("0", 4096) + "1"} {
		for what, d := range map[string]api.Disk{
			"alone":               disks(),
			"beside a log":        cutUp(1, 4, 1),
			"beside a gap":        disks(segment(some(1, 4), ""), segment(some(9, 1), "")),
			"beside what is torn": disks(segment(some(1, 2), "x"), segment(some(3, 1), "")),
		} {
			unable(t, what+": "+bad, with(d, file(bad, "")), api.ErrForm)
			unable(t, what+", with entries: "+bad, with(d, file(bad, content(some(1, 1)...))), api.ErrForm)
		}
	}
	for _, first := range []uint64{1, 9, 10, 15, 16, 255, 1 << 32, api.MaxNumber, 0xabcdef0123456789, most} {
		d := disks(segment(some(first, 1), ""))
		holds(t, name(first), d, some(first, 1))
	}
	beside := []api.File{file("", "x"), file("W/0000000000000001", "x"), file("v/1", "x"), file("w", "x"), file("w.", "x"), file("w0", "x"), file("ww/1", "x"), file("hard", "x"), file("/w/1", "")}
	holds(t, "files of others", disks(beside...), nil)
	holds(t, "a log beside them", with(cutUp(3, 4, 2), beside...), some(3, 6))
}

// Words: the log of a disk, and its bytes as they stand there: the chapter's example, too.
func TestLoadKnown(t *testing.T) {
	holds(t, "no files", api.Disk{}, nil)
	holds(t, "no fuse left", api.Disk{Fuse: 0, Files: cutUp(1, 4, 1).Files}, some(1, 5))
	for _, from := range []uint64{1, 2, 3, 4, 5, 100, 1 << 40, most - 20} {
		for n := range 14 {
			d, why := wal.Append(api.Disk{Fuse: -1}, some(from, n))
			holds(t, "appended", d, some(from, n))
			var want []api.File
			for l := range slices.Chunk(some(from, n), 4) {
				want = append(want, segment(l, ""))
			}
			if !same(d, disks(want...)) || why != api.OK {
				t.Errorf("%d from %d: %s, error %d", n, from, brief(d), why)
			}
		}
	}
	d, _ := wal.Append(api.Disk{Fuse: -1}, some(1, 5))
	if l, _ := disk.Names(d, ""); !slices.Equal(l, []string{"w/0000000000000001", "w/0000000000000005"}) {
		t.Errorf("the example: %q", l)
	}
	holds(t, "short segments", cutUp(6, 1, 2, 3, 1, 4, 2), some(6, 13))
	holds(t, "the last Index of all", cutUp(most-4, 4, 1), some(most-4, 5))
}

// tails are what no entry begins with: each of them is torn, and so is all behind it.
func tails() []string {
	whole := content(some(5, 1)...)
	list := []string{"\x00", "\x00\x00\x00\x00", "\x00\x01\x00\x01", "\xff\xff\xff\xff" + whole, "x" + whole, "\x00" + whole}
	for size := 1; size < len(whole); size++ {
		list = append(list, whole[:size])
	}
	for bit := range 8 * len(whole) {
		b := []byte(whole)
		b[bit/8] ^= 1 << (bit % 8)
		list = append(list, string(b)+whole)
	}
	for _, payload := range []string{"", "x", raw(0, 1, 1, ""), raw(5, 1, 0, ""), raw(5, 1, 4, ""), raw(5, 1, 1, "x"), raw(5, 1, 257, ""), raw(5, 1, 3, ""), raw(5, 1, 3, "", 8), raw(5, 1, 2, strings.Repeat("x", maxBig+1)), bytesOf(order(5, "")) + "\x00", bytesOf(order(5, ""))[1:]} {
		list = append(list, frame(payload), frame(payload)+whole)
	}
	return list
}

// Words: what is torn of the last segment is not there, whatever it is; of any other one it is an error. 3.2: Open cuts it off.
func TestTorn(t *testing.T) {
	for n := range 5 {
		l := some(1, n)
		clean := disks(file(name(1), content(l...)))
		for i, tail := range tails() {
			d := torn(clean, tail)
			holds(t, "torn", d, l)
			e, got, why := wal.Open(d)
			if !same(e, clean) || !equals(got, l) || why != api.OK {
				t.Errorf("Open, %d, %d: %s, %d entries, error %d", n, i, brief(e), len(got), why)
			}
			if i%9 == 0 {
				behind := segment(some(1+uint64(n), 1), "")
				behind.Name = name(9) // a gap, too: what is torn comes ahead of it
				unable(t, "torn, and not the last one", with(d, behind), api.ErrForm)
			}
		}
	}
	ahead := cutUp(1, 4, 3)
	for _, tail := range tails() {
		holds(t, "torn, behind others", torn(ahead, tail), some(1, 7))
	}
}

// Words: the errors of a segment, and which comes first.
func TestWhichFirst(t *testing.T) {
	three, other := some(3, 1), some(8, 1)
	for what, one := range map[string]struct {
		d   api.Disk
		why api.Errno
	}{
		"no entries, not the last":               {disks(file(name(1), ""), segment(three, "")), api.ErrForm},
		"no entries, in the middle":              {disks(segment(some(1, 2), ""), file(name(3), ""), segment(some(4, 1), "")), api.ErrForm},
		"no entries, between":                    {disks(segment(some(1, 2), ""), file(name(3), ""), file(name(4), "")), api.ErrForm},
		"all torn, not the last":                 {disks(file(name(1), "xyz"), file(name(2), "")), api.ErrForm},
		"five entries":                           {cutUp(1, 5), api.ErrForm},
		"five entries, and torn":                 {torn(cutUp(1, 5), "x"), api.ErrForm},
		"five entries, not the last":             {cutUp(1, 5, 1), api.ErrForm},
		"five entries, behind others":            {cutUp(1, 4, 5), api.ErrForm},
		"nine entries":                           {cutUp(1, 9), api.ErrForm},
		"a gap":                                  {disks(segment(some(1, 4), ""), segment(some(6, 1), "")), api.ErrGap},
		"a gap to one without entries":           {disks(segment(some(1, 4), ""), file(name(6), "")), api.ErrGap},
		"a gap to one that is torn":              {disks(segment(some(1, 4), ""), file(name(4), "x")), api.ErrGap},
		"too early":                              {disks(segment(some(1, 4), ""), segment(some(4, 1), "")), api.ErrGap},
		"a gap further on":                       {disks(segment(some(1, 4), ""), segment(some(5, 4), ""), segment(some(10, 1), "")), api.ErrGap},
		"a gap ahead of the rest":                {disks(segment(some(1, 2), ""), segment(some(5, 4), ""), segment(some(9, 1), "")), api.ErrGap},
		"a gap where numbers end":                {disks(segment(some(most-8, 4), ""), segment(some(most, 1), "")), api.ErrGap},
		"another first Index":                    {disks(file(name(1), content(some(2, 2)...))), api.ErrForm},
		"another first Index, torn":              {disks(file(name(2), content(some(1, 2)...)+"x")), api.ErrForm},
		"an Index twice":                         {disks(file(name(1), content(lead(1), lead(1)))), api.ErrForm},
		"an Index left out":                      {disks(file(name(1), content(lead(1), lead(3)))), api.ErrForm},
		"an Index that falls":                    {disks(file(name(2), content(lead(2), lead(3), lead(2)))), api.ErrForm},
		"the last Index in a row":                {disks(file(name(most), content(lead(most), lead(1)))), api.ErrForm},
		"behind others, another first":           {disks(segment(some(1, 4), ""), file(name(5), content(some(6, 2)...))), api.ErrForm},
		"behind others, twice":                   {disks(segment(some(1, 4), ""), file(name(5), content(lead(5), lead(5)))), api.ErrForm},
		"of one: a gap, and no row":              {disks(segment(some(1, 4), ""), file(name(6), content(some(5, 2)...))), api.ErrGap},
		"of one: a gap, and twice":               {disks(segment(some(1, 4), ""), file(name(6), content(lead(6), lead(6)))), api.ErrGap},
		"of one: five, and a gap":                {disks(segment(some(1, 4), ""), segment(some(6, 5), "")), api.ErrForm},
		"of one: torn, and a gap":                {disks(segment(some(1, 4), ""), segment(some(6, 2), "x"), segment(other, "")), api.ErrForm},
		"of one: none, and a gap":                {disks(segment(some(1, 4), ""), file(name(6), ""), segment(other, "")), api.ErrForm},
		"of one: five, and no row":               {disks(file(name(1), content(some(2, 5)...))), api.ErrForm},
		"of the first no row, then a gap":        {disks(file(name(1), content(lead(2))), segment(other, "")), api.ErrForm},
		"of the first a gap, then no row":        {disks(segment(some(1, 1), ""), segment(three, ""), file(name(4), content(lead(9)))), api.ErrGap},
		"of the first a gap, then five":          {disks(segment(some(1, 1), ""), segment(three, ""), segment(some(4, 5), "")), api.ErrGap},
		"of the first a gap, then torn":          {disks(segment(some(1, 1), ""), segment(three, ""), segment(some(4, 1), "x"), segment(some(5, 1), "")), api.ErrGap},
		"of the first five, then a gap":          {disks(segment(some(1, 5), ""), segment(some(8, 1), "")), api.ErrForm},
		"right to the second one's first, torn":  {disks(segment(some(1, 2), ""), file(name(4), "x")), api.ErrGap},
		"no Index 0: it is torn, not the last":   {disks(file(name(1), content(lead(1), api.Entry{Kind: api.EntryLead})), file(name(2), "")), api.ErrForm},
		"a wrong entry in the middle, not alone": {disks(file(name(1), frame(raw(1, 1, 9, ""))+content(lead(2))), segment(some(3, 1), "")), api.ErrForm},
	} {
		unable(t, what, one.d, one.why)
	}
}

// 3.2: what Open does to the disk: a cut, if there is something torn, and a sync, if there is a segment.
func TestOpen(t *testing.T) {
	others := []api.File{{Name: "hard", Data: "xy", Synced: 1}, {Name: "x", Data: "xy"}}
	wet := cutUp(5, 4, 2)
	wet.Files[0].Synced, wet.Files[1].Synced = 3, 5
	wetTorn := torn(wet, "x")
	wetTorn.Files[1].Synced = 0
	three := some(1, 3)
	for _, s := range []step{
		{"no files", disks(), opens, nil},
		{"other files", disks(others...), opens, nil},
		{"a log", cutUp(1, 4, 1), opens, []change{sync(5)}},
		{"a full one", cutUp(1, 4), opens, []change{sync(1)}},
		{"torn", torn(cutUp(1, 3), "x"), opens, []change{cut(1, three...), sync(1)}},
		{"torn, and others", with(torn(cutUp(1, 4, 2), "\x00\x00"), others...), opens, []change{cut(5, some(5, 2)...), sync(5)}},
		{"a full one, torn", torn(cutUp(1, 4), content(some(5, 1)...)[:9]), opens, []change{cut(1, some(1, 4)...), sync(1)}},
		{"all torn", disks(file(name(7), "xyz")), opens, []change{cut(7), sync(7)}},
		{"no entries", disks(file(name(7), "")), opens, []change{sync(7)}},
		{"no entries, behind others", with(cutUp(1, 4), file(name(5), "")), opens, []change{sync(5)}},
		{"not synced", wet, opens, []change{sync(9)}},
		{"not synced, and torn", wetTorn, opens, []change{cut(9, some(9, 2)...), sync(9)}},
	} {
		s.look(t)
		want, _ := wal.Load(s.d)
		for fuse := -1; fuse < len(s.list)+1; fuse++ {
			d := clone(s.d)
			d.Fuse = fuse
			_, l, why := wal.Open(d)
			if why == api.OK && !equals(l, want) || why != api.OK && len(l) != 0 {
				t.Errorf("%s, fuse %d: %d entries, error %d", s.what, fuse, len(l), why)
			}
		}
	}
}

// The bytes of a frame may say more than there may be: that is torn as well.
func TestTornLong(t *testing.T) {
	long := "\x00\x01\x00\x01\xff\xff" + strings.Repeat("x", api.MaxData+1)
	holds(t, "a frame that is too long", disks(file(name(1), content(some(1, 1)...)+long)), some(1, 1))
	big := frame(strings.Repeat("x", api.MaxData))
	holds(t, "a frame of the greatest length, of no entry", disks(file(name(1), big+content(some(1, 1)...))), nil)
	f, _ := pack.Frame(bytesOf(order(1, strings.Repeat("x", maxBig))))
	holds(t, "an entry of the greatest length", disks(file(name(1), f)), []api.Entry{order(1, strings.Repeat("x", maxBig))})
}
