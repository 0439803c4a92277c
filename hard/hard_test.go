package hard_test

import (
	"fmt"
	"math"
	"slices"
	"testing"

	"gaffer/api"
	"gaffer/disk"
	"gaffer/hard"
	"gaffer/pack"
)

const most = math.MaxUint64

func rights() []api.Hard {
	var list []api.Hard
	for _, term := range []uint64{0, 1, 255, 256, 65536, api.MaxNumber, api.MaxNumber + 1, most} {
		for vote := range api.MaxReplicas + 1 {
			list = append(list, api.Hard{Term: term, Vote: vote})
		}
	}
	return list
}

func wrongs() []api.Hard {
	var list []api.Hard
	for _, vote := range []int{-1, 8, 9, 255, 256, 257, 1 << 32, 1<<32 + 1, math.MinInt, math.MaxInt} {
		list = append(list, api.Hard{Vote: vote}, api.Hard{Term: 5, Vote: vote}, api.Hard{Term: most, Vote: vote})
	}
	return list
}

func frame(payload string) string {
	f, why := pack.Frame(payload)
	if why != api.OK {
		panic("a payload that is too long")
	}
	return f
}

func content(h api.Hard) string {
	return frame(pack.Number(h.Term) + pack.Number(uint64(h.Vote)))
}

func file(name, data string) api.File {
	return api.File{Name: name, Data: data, Synced: len(data)}
}

func disks(files ...api.File) api.Disk { return api.Disk{Files: files, Fuse: -1} }

// saved has h, and other files whose names are nearly its own; some of them are not synced.
func saved(h api.Hard) api.Disk {
	return disks(append(others()[:3:3], append([]api.File{file("hard", content(h))}, others()[3:]...)...)...)
}

func others() []api.File {
	return []api.File{{Name: "", Data: "x"}, {Name: "Hard", Data: "xy", Synced: 1}, {Name: "har", Data: "xy"}, {Name: "hard.tm", Data: "xy"}, {Name: "hard.tmp2", Data: "xy", Synced: 1}, {Name: "hard2", Data: "xyz", Synced: 2}, {Name: "w/0000000000000001", Data: "x"}}
}

// undone is d with something that a Save did not come to the end of.
func undone(d api.Disk, f api.File) api.Disk {
	d = clone(d)
	f.Name = "hard.tmp"
	at, _ := slices.BinarySearchFunc(d.Files, f.Name, func(f api.File, name string) int {
		if f.Name < name {
			return -1
		}
		return 1
	})
	d.Files = slices.Insert(d.Files, at, f)
	return d
}

func clone(d api.Disk) api.Disk {
	d.Files = slices.Clone(d.Files)
	return d
}

func same(a, b api.Disk) bool {
	return slices.Equal(a.Files, b.Files) && a.Down == b.Down && a.Fuse == b.Fuse
}

// 4.1: Check.
func TestCheck(t *testing.T) {
	for _, h := range rights() {
		if why := hard.Check(h); why != api.OK {
			t.Errorf("%v: error %d", h, why)
		}
	}
	for _, h := range wrongs() {
		if why := hard.Check(h); why != api.ErrRange {
			t.Errorf("%v: error %d", h, why)
		}
	}
}

func loads(t *testing.T, what string, d api.Disk, want api.Hard, no api.Errno) {
	t.Helper()
	if h, why := hard.Load(d); h != want || why != no {
		t.Errorf("%s: %v, error %d; not %v, error %d", what, h, why, want, no)
	}
}

// 4.1: Load, and the chapter's example; what is not done, or of others, is not read.
func TestLoad(t *testing.T) {
	loads(t, "no files", api.Disk{}, api.Hard{}, api.OK)
	loads(t, "other files", disks(others()...), api.Hard{}, api.OK)
	loads(t, "only one that is not done", disks(file("hard.tmp", content(api.Hard{Term: 1}))), api.Hard{}, api.OK)
	for _, h := range rights() {
		loads(t, "saved", saved(h), h, api.OK)
		loads(t, "and another one that is not done", undone(saved(h), file("", content(api.Hard{Term: 77}))), h, api.OK)
	}
	wet := saved(api.Hard{Term: 3, Vote: 1})
	wet.Files[3].Synced, wet.Fuse = 0, 0
	loads(t, "not synced, and no fuse left", wet, api.Hard{Term: 3, Vote: 1}, api.OK)
	size, payload := "\x00\x00\x00\x05", "\x02\x01\x02\x01\x07"
	sum := pack.Sum(size + payload)
	known := disks(file("hard", size+string([]byte{byte(sum >> 8), byte(sum)})+payload))
	loads(t, "byte by byte", known, api.Hard{Term: 258, Vote: 7}, api.OK)
}

// 4.1: the errors of Load, of disks that are not right, or without power; and of files that are not as they are written.
func TestLoadWrong(t *testing.T) {
	for what, d := range wrongDisks() {
		loads(t, what, d, api.Hard{}, api.ErrState)
	}
	for what, d := range map[string]api.Disk{"nothing": {}, "saved": saved(api.Hard{Term: 1}), "no file of its": disks(file("hard", "x"))} {
		d.Down = true
		loads(t, "without power: "+what, d, api.Hard{}, api.ErrPower)
	}
	whole := content(api.Hard{Term: 258, Vote: 5})
	bad := map[string]string{"no bytes": "", "text": "hard", "two frames": whole + whole, "one byte more": whole + "\x00", "one byte ahead": "\x00" + whole}
	for size := range len(whole) {
		bad[fmt.Sprintf("cut to %d", size)] = whole[:size]
	}
	for bit := range 8 * len(whole) {
		b := []byte(whole)
		b[bit/8] ^= 1 << (bit % 8)
		bad[fmt.Sprintf("bit %d turned", bit)] = string(b)
	}
	for i, payload := range []string{"", "\x00", "\x01\x05", "\x01\x05\x01", "\x00\x00\x00", "\x01\x05\x01\x02\x00", "\x01\x05\x01\x02x", "\x01\x00\x00", "\x02\x00\x05\x00", "\x01\x05\x01\x00", "\x01\x05\x02\x00\x05", "\x09\x01\x01\x01\x01\x01\x01\x01\x01\x01\x00", "\x01\x05\x09\x01"} {
		bad[fmt.Sprintf("payload %d", i)] = frame(payload)
	}
	for _, vote := range []uint64{8, 9, 255, 256, 257, 1 << 32, 1<<32 + 1, 1 << 63, 1<<63 + 1, most} {
		bad[fmt.Sprintf("the vote %d", vote)] = frame(pack.Number(5) + pack.Number(vote))
	}
	for what, s := range bad {
		loads(t, what, disks(file("hard", s)), api.Hard{}, api.ErrForm)
	}
}

func wrongDisks() map[string]api.Disk {
	var many []api.File
	for i := range api.MaxFiles + 1 {
		many = append(many, file(fmt.Sprintf("x%05d", i), ""))
	}
	h := file("hard", content(api.Hard{Term: 1}))
	return map[string]api.Disk{
		"too many files":     disks(many...),
		"files that fall":    disks(h, file("a", "")),
		"twice":              disks(h, h),
		"synced, more":       disks(api.File{Name: "hard", Data: h.Data, Synced: len(h.Data) + 1}),
		"another's, below 0": disks(file("a", ""), h, api.File{Name: "x", Synced: -1}),
		"and without power":  {Files: []api.File{h, h}, Down: true},
		"and no fuse left":   {Files: []api.File{h, h}},
	}
}

// row does what the chapter says of a Save, one by one; how many changes these are is told, too.
func row(d api.Disk, h api.Hard) (api.Disk, int, api.Errno) {
	list := []func() (api.Disk, api.Errno){
		func() (api.Disk, api.Errno) { return disk.Add(d, "hard.tmp", content(h)) },
		func() (api.Disk, api.Errno) { return disk.Sync(d, "hard.tmp") },
		func() (api.Disk, api.Errno) { return disk.Swap(d, "hard.tmp", "hard") },
	}
	if slices.ContainsFunc(d.Files, func(f api.File) bool { return f.Name == "hard.tmp" }) {
		list = append([]func() (api.Disk, api.Errno){func() (api.Disk, api.Errno) { return disk.Drop(d, "hard.tmp") }}, list...)
	}
	for _, c := range list {
		var why api.Errno
		if d, why = c(); why != api.OK {
			return d, len(list), why
		}
	}
	return d, len(list), api.OK
}

// starts are disks on which is saved.
func starts() map[string]api.Disk {
	old := saved(api.Hard{Term: 5, Vote: 2})
	bad := disks(file("hard", "no frame"))
	return map[string]api.Disk{
		"nothing":               disks(),
		"other files":           disks(others()...),
		"saved":                 old,
		"not done":              undone(old, file("", content(api.Hard{Term: 9})[:7])),
		"not done, not synced":  undone(old, api.File{Data: content(api.Hard{Term: 9}), Synced: 3}),
		"not done, nothing yet": undone(disks(), file("", "")),
		"what is none":          bad,
		"what is none, twice":   undone(bad, file("", "xyz")),
	}
}

// 4.2 and 4.5: which changes a Save does, in which order, and no other, whenever the power goes.
func TestSave(t *testing.T) {
	for what, start := range starts() {
		for _, h := range rights() {
			_, n, _ := row(start, h)
			for fuse := -1; fuse <= n+1; fuse++ {
				d := clone(start)
				d.Fuse = fuse
				want, _, no := row(d, h)
				got, why := hard.Save(d, h)
				if !same(got, want) || why != no {
					t.Errorf("%s, %v, fuse %d: %v, error %d; not %v, error %d", what, h, fuse, got, why, want, no)
				}
				if why == api.OK {
					loads(t, what, got, h, api.OK)
				} else if fuse < 0 || fuse >= n {
					t.Errorf("%s, fuse %d: error %d", what, fuse, why)
				}
				if !slices.Equal(d.Files, start.Files) {
					t.Errorf("%s: what was handed in is changed", what)
				}
			}
		}
	}
}

// 4.5: whatever a Save does, and a crash behind it.
func TestOthers(t *testing.T) {
	for what, start := range starts() {
		for fuse := -1; fuse < 6; fuse++ {
			d := clone(start)
			d.Fuse = fuse
			d, _ = hard.Save(d, api.Hard{Term: 6, Vote: 7})
			if !slices.Equal(theirs(d), theirs(start)) {
				t.Errorf("%s, fuse %d: other files are changed: %v", what, fuse, d.Files)
			}
		}
	}
}

func theirs(d api.Disk) []api.File {
	return slices.DeleteFunc(slices.Clone(d.Files), func(f api.File) bool { return f.Name == "hard" || f.Name == "hard.tmp" })
}

// 4.2: Check's error is the first one: with it nothing is done, and the disk is told, unless it is not right.
func TestSaveWrong(t *testing.T) {
	for _, h := range wrongs() {
		for what, d := range starts() {
			for _, fuse := range []int{-1, 0, 1} {
				for _, down := range []bool{false, true} {
					d.Fuse, d.Down = fuse, down
					if e, why := hard.Save(d, h); !same(e, d) || why != api.ErrRange {
						t.Errorf("%s, %v, fuse %d, down %t: %v, error %d", what, h, fuse, down, e, why)
					}
				}
			}
		}
		for what, d := range wrongDisks() {
			if e, why := hard.Save(d, h); !same(e, api.Disk{}) || why != api.ErrRange {
				t.Errorf("%s, %v: %v, error %d", what, h, e, why)
			}
		}
	}
}

// 4.2: of disks that are not right, without power, or without room.
func TestSaveState(t *testing.T) {
	for what, d := range wrongDisks() {
		if e, why := hard.Save(d, api.Hard{Term: 1}); !same(e, api.Disk{}) || why != api.ErrState {
			t.Errorf("%s: %v, error %d", what, e, why)
		}
	}
	for what, d := range starts() {
		for _, fuse := range []int{-1, 0, 1} {
			d.Fuse, d.Down = fuse, true
			if e, why := hard.Save(d, api.Hard{Term: 1}); !same(e, d) || why != api.ErrPower {
				t.Errorf("%s, without power, fuse %d: %v, error %d", what, fuse, e, why)
			}
		}
	}
	var files []api.File
	for i := range api.MaxFiles - 1 {
		files = append(files, file(fmt.Sprintf("x%05d", i), ""))
	}
	full := disks(append([]api.File{file("hard", content(api.Hard{Term: 5}))}, files...)...)
	for _, fuse := range []int{-1, 0, 1} {
		full.Fuse = fuse
		if e, why := hard.Save(full, api.Hard{Term: 6}); !same(e, full) || why != api.ErrFull {
			t.Errorf("no room, fuse %d: error %d", fuse, why)
		}
	}
	room := undone(disks(files...), file("", "x"))
	e, why := hard.Save(room, api.Hard{Term: 6})
	if why != api.OK || len(e.Files) != api.MaxFiles {
		t.Errorf("room for one that is not done: %d files, error %d", len(e.Files), why)
	}
	loads(t, "room for one that is not done", e, api.Hard{Term: 6}, api.OK)
}

// 4.4: wherever the power goes, and whatever is kept; and behind it is saved again.
func TestPower(t *testing.T) {
	next := api.Hard{Term: 1 << 40, Vote: 3}
	for what, start := range starts() {
		old, none := hard.Load(start)
		for fuse := range 6 {
			x := clone(start)
			x.Fuse = fuse
			x, why := hard.Save(x, next)
			for keep := range len(content(next)) + 2 {
				left, no := disk.Crash(x, slices.Repeat([]int{keep}, len(x.Files)))
				h, lost := hard.Load(left)
				isOld, isNew := h == old && lost == none, h == next && lost == api.OK
				if no != api.OK || !isOld && !isNew || why == api.OK && !isNew {
					t.Errorf("%s, fuse %d, keeping %d: %v, errors %d, %d, %d", what, fuse, keep, h, why, no, lost)
				}
				again, also := hard.Save(left, api.Hard{Term: 7, Vote: 1})
				loads(t, what+", saved again", again, api.Hard{Term: 7, Vote: 1}, api.OK)
				if also != api.OK || len(again.Files) != len(theirs(start))+1 {
					t.Errorf("%s, saved again: %v, error %d", what, again, also)
				}
			}
		}
	}
}

// 4.3: whatever is written into what was answered, what was handed in stays as it was, and the other way round; room behind its end, too.
func TestNewMemory(t *testing.T) {
	spare := api.File{Name: "spare", Data: "spare", Synced: 5}
	for what, start := range starts() {
		for _, h := range []api.Hard{{Term: 6, Vote: 7}, {Vote: 8}} {
			for _, down := range []bool{false, true} {
				for fuse := -1; fuse < 5; fuse++ {
					room := append(slices.Clone(start.Files), spare, spare, spare)
					whole := slices.Clone(room)
					d := api.Disk{Files: room[:len(start.Files)], Down: down, Fuse: fuse}
					before, none := hard.Load(d)
					first, why := hard.Save(d, h)
					told := clone(first)
					again, no := hard.Save(d, h)
					if !same(again, first) || why != no {
						t.Errorf("%s, fuse %d: asked again it is another one", what, fuse)
					}
					spoil(again.Files)
					after, also := hard.Load(d)
					if !slices.Equal(room, whole) || !same(first, told) || before != after || none != also {
						t.Errorf("%s, fuse %d: the answer shares memory", what, fuse)
					}
					spoil(room)
					if !same(first, told) {
						t.Errorf("%s, fuse %d: the answer shares memory with what was handed in", what, fuse)
					}
				}
			}
		}
	}
}

func spoil(files []api.File) {
	files = files[:cap(files)]
	for i := range files {
		files[i] = api.File{Name: "spoilt", Data: "spoilt", Synced: 1}
	}
}
