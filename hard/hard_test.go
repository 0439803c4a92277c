package hard_test

import (
	"fmt"
	"math"
	"slices"
	"testing"

	"gaffer/api"
	"gaffer/disk"
	"gaffer/disktest"
	"gaffer/hard"
	"gaffer/pack"
)

const most = math.MaxUint64

func rights() []api.Hard {
	var list []api.Hard
	for _, term := range []uint64{0, 1, 255, 256, 65536, api.MaxNumber, api.MaxNumber + 1, most} {
		for vote := range api.MaxReplicas + 1 {
			list = append(list, api.Hard{Term: term, Vote: vote})
		}
	}
	return list
}

func wrongs() []api.Hard {
	var list []api.Hard
	for _, vote := range []int{-1, 8, 9, 255, 256, 257, 1 << 32, 1<<32 + 1, math.MinInt, math.MaxInt} {
		list = append(list, api.Hard{Vote: vote}, api.Hard{Term: 5, Vote: vote}, api.Hard{Term: most, Vote: vote})
	}
	return list
}

func frame(payload string) string {
	f, why := pack.Frame(payload)
	if why != api.OK {
		panic("a payload that is too long")
	}
	return f
}

func content(h api.Hard) string {
	return frame(pack.Number(h.Term) + pack.Number(uint64(h.Vote)))
}

// saved has h, and other files whose names are nearly its own.
func saved(h api.Hard) api.Disk {
	return disktest.With(others(), disktest.File("hard", content(h)))
}

func others() api.Disk { return disktest.Of(disktest.Beside("hard")...) }

// undone is d with something that a Save did not come to the end of.
func undone(d api.Disk, data string) api.Disk {
	return disktest.With(d, disktest.File("hard.tmp", data))
}

// 4.1: Check.
func TestCheck(t *testing.T) {
	for _, h := range rights() {
		if why := hard.Check(h); why != api.OK {
			t.Errorf("%v: error %d", h, why)
		}
	}
	for _, h := range wrongs() {
		if why := hard.Check(h); why != api.ErrRange {
			t.Errorf("%v: error %d", h, why)
		}
	}
}

func loads(t *testing.T, what string, d api.Disk, want api.Hard, no api.Errno) {
	t.Helper()
	if h, why := hard.Load(d); h != want || why != no {
		t.Errorf("%s: %v, error %d; not %v, error %d", what, h, why, want, no)
	}
}

// 4.1: Load, and the chapter's example; what is not done, or of others, is not read.
func TestLoad(t *testing.T) {
	loads(t, "no files", api.Disk{}, api.Hard{}, api.OK)
	loads(t, "other files", others(), api.Hard{}, api.OK)
	loads(t, "only one that is not done", disktest.Of(disktest.File("hard.tmp", content(api.Hard{Term: 1}))), api.Hard{}, api.OK)
	for _, h := range rights() {
		loads(t, "saved", saved(h), h, api.OK)
		loads(t, "and another one that is not done", undone(saved(h), content(api.Hard{Term: 77})), h, api.OK)
	}
	wet := api.Disk{Files: []api.File{{Name: "hard", Data: content(api.Hard{Term: 3, Vote: 1})}}}
	loads(t, "not synced, and no fuse left", wet, api.Hard{Term: 3, Vote: 1}, api.OK)
	size, payload := "\x00\x00\x00\x05", "\x02\x01\x02\x01\x07"
	sum := pack.Sum(size + payload)
	known := disktest.Of(disktest.File("hard", size+string([]byte{byte(sum >> 8), byte(sum)})+payload))
	loads(t, "byte by byte", known, api.Hard{Term: 258, Vote: 7}, api.OK)
}

// 4.1: the errors of Load, of disks that are not right, or without power; and of files that are not as they are written.
func TestLoadWrong(t *testing.T) {
	for what, d := range wrongDisks() {
		loads(t, what, d, api.Hard{}, api.ErrState)
	}
	for what, d := range map[string]api.Disk{"nothing": {}, "saved": saved(api.Hard{Term: 1}), "no file of its": disktest.Of(disktest.File("hard", "x"))} {
		d.Down = true
		loads(t, "without power: "+what, d, api.Hard{}, api.ErrPower)
	}
	whole := content(api.Hard{Term: 258, Vote: 5})
	bad := map[string]string{"no bytes": "", "text": "hard", "two frames": whole + whole, "one byte more": whole + "\x00", "one byte ahead": "\x00" + whole}
	for size := range len(whole) {
		bad[fmt.Sprintf("cut to %d", size)] = whole[:size]
	}
	for bit := range 8 * len(whole) {
		b := []byte(whole)
		b[bit/8] ^= 1 << (bit % 8)
		bad[fmt.Sprintf("bit %d turned", bit)] = string(b)
	}
	for i, payload := range []string{"", "\x00", "\x01\x05", "\x01\x05\x01", "\x00\x00\x00", "\x01\x05\x01\x02\x00", "\x01\x05\x01\x02x", "\x01\x00\x00", "\x02\x00\x05\x00", "\x01\x05\x01\x00", "\x01\x05\x02\x00\x05", "\x09\x01\x01\x01\x01\x01\x01\x01\x01\x01\x00", "\x01\x05\x09\x01"} {
		bad[fmt.Sprintf("payload %d", i)] = frame(payload)
	}
	for _, vote := range []uint64{8, 9, 255, 256, 257, 1 << 32, 1<<32 + 1, 1 << 63, 1<<63 + 1, most} {
		bad[fmt.Sprintf("the vote %d", vote)] = frame(pack.Number(5) + pack.Number(vote))
	}
	for what, s := range bad {
		loads(t, what, disktest.Of(disktest.File("hard", s)), api.Hard{}, api.ErrForm)
	}
}

func wrongDisks() map[string]api.Disk {
	return disktest.Wrong(disktest.File("hard", content(api.Hard{Term: 1})))
}

func saves(h api.Hard) disktest.Call {
	return func(d api.Disk) (api.Disk, api.Errno) { return hard.Save(d, h) }
}

// starts are disks on which is saved.
func starts() map[string]api.Disk {
	old := saved(api.Hard{Term: 5, Vote: 2})
	bad := disktest.Of(disktest.File("hard", "no frame"))
	return map[string]api.Disk{
		"nothing":               disktest.Of(),
		"other files":           others(),
		"saved":                 old,
		"not done":              undone(old, content(api.Hard{Term: 9})[:7]),
		"not done, not synced":  disktest.With(old, api.File{Name: "hard.tmp", Data: content(api.Hard{Term: 9}), Synced: 3}),
		"not done, nothing yet": undone(disktest.Of(), ""),
		"what is none":          bad,
		"what is none, twice":   undone(bad, "xyz"),
	}
}

// 4.2 and 4.5: which changes a Save does, in which order, and no other, whenever the power goes.
func TestSave(t *testing.T) {
	for what, start := range starts() {
		for _, h := range rights() {
			if s := disktest.Differs(start, saves(h), disktest.Rewrite(start, "hard", "hard.tmp", content(h))...); s != "" {
				t.Errorf("%s, %v, %s", what, h, s)
			}
			d, _ := hard.Save(start, h)
			loads(t, what, d, h, api.OK)
		}
	}
}

// 4.5: whatever a Save does, and whenever the power goes.
func TestOthers(t *testing.T) {
	for what, start := range starts() {
		for fuse := -1; fuse < 6; fuse++ {
			d, _ := hard.Save(disktest.Fused(start, fuse), api.Hard{Term: 6, Vote: 7})
			if !slices.Equal(theirs(d), theirs(start)) {
				t.Errorf("%s, fuse %d: other files are changed: %s", what, fuse, disktest.Brief(d))
			}
		}
	}
}

func theirs(d api.Disk) []api.File { return disktest.Without(d, "hard", "hard.tmp").Files }

func refuses(t *testing.T, what string, d api.Disk, h api.Hard, why api.Errno) {
	t.Helper()
	if s := disktest.Refuses(d, saves(h), why); s != "" {
		t.Errorf("%s, %v, %s", what, h, s)
	}
}

// 4.2: Check's error is the first one: with it nothing is done, and the disk is told, unless it is not right.
func TestSaveWrong(t *testing.T) {
	for _, h := range wrongs() {
		for what, d := range starts() {
			refuses(t, what, d, h, api.ErrRange)
			refuses(t, what, disktest.Down(d), h, api.ErrRange)
		}
		for what, d := range wrongDisks() {
			refuses(t, what, d, h, api.ErrRange)
		}
	}
}

// 4.2: of disks that are not right, without power, or without room.
func TestSaveState(t *testing.T) {
	h := api.Hard{Term: 6}
	for what, d := range wrongDisks() {
		refuses(t, what, d, h, api.ErrState)
	}
	for what, d := range starts() {
		refuses(t, what, disktest.Down(d), h, api.ErrPower)
	}
	files := disktest.Many(api.MaxFiles - 1)
	refuses(t, "no room", disktest.Of(append(files, disktest.File("hard", content(api.Hard{Term: 5})))...), h, api.ErrFull)
	d, why := hard.Save(undone(disktest.Of(files...), "x"), h)
	if why != api.OK || len(d.Files) != api.MaxFiles {
		t.Errorf("room for one that is not done: %d files, error %d", len(d.Files), why)
	}
	loads(t, "room for one that is not done", d, h, api.OK)
}

// 4.4: wherever the power goes, and whatever is kept; and behind it is saved again.
func TestPower(t *testing.T) {
	next := api.Hard{Term: 1 << 40, Vote: 3}
	for what, start := range starts() {
		old, none := hard.Load(start)
		for fuse := range 6 {
			x, why := hard.Save(disktest.Fused(start, fuse), next)
			for keep := range len(content(next)) + 2 {
				left, no := disk.Crash(x, slices.Repeat([]int{keep}, len(x.Files)))
				h, lost := hard.Load(left)
				isOld, isNew := h == old && lost == none, h == next && lost == api.OK
				if no != api.OK || !isOld && !isNew || why == api.OK && !isNew {
					t.Errorf("%s, fuse %d, keeping %d: %v, errors %d, %d, %d", what, fuse, keep, h, why, no, lost)
				}
				again, also := hard.Save(left, api.Hard{Term: 7, Vote: 1})
				loads(t, what+", saved again", again, api.Hard{Term: 7, Vote: 1}, api.OK)
				if also != api.OK || len(again.Files) != len(theirs(start))+1 {
					t.Errorf("%s, saved again: %s, error %d", what, disktest.Brief(again), also)
				}
			}
		}
	}
}

// 4.3: whatever is written into what was answered, what was handed in stays as it was, and the other way round; room behind its end, too.
func TestNewMemory(t *testing.T) {
	for what, start := range starts() {
		before, none := hard.Load(start)
		for _, h := range []api.Hard{{Term: 6, Vote: 7}, {Vote: 8}} {
			for _, d := range []api.Disk{start, disktest.Down(start)} {
				if s := disktest.Shares(d, saves(h)); s != "" {
					t.Errorf("%s, %v, %s", what, h, s)
				}
			}
		}
		loads(t, what, start, before, none)
	}
}
