package snap_test

import (
	"fmt"
	"math"
	"math/rand"
	"slices"
	"strings"
	"testing"

	"gaffer/api"
	"gaffer/disk"
	"gaffer/disktest"
	"gaffer/logtest"
	"gaffer/pack"
	"gaffer/snap"
)

const most = math.MaxUint64

// What the tests of all that has snapshots have.
var (
	rights    = logtest.RightSnaps
	wrongs    = logtest.WrongSnaps
	sameSnap  = logtest.SameSnap
	cloneSnap = logtest.CloneSnap
	brief     = logtest.BriefSnap
)

// bytesOf does what the chapter says of any snapshot, right or not.
func bytesOf(s api.Snap) string {
	b := pack.Number(s.Index) + pack.Number(s.Term) + pack.Number(uint64(len(s.Members)))
	for _, m := range s.Members {
		b += pack.Number(uint64(m))
	}
	return b + pack.Text(s.Data)
}

func frame(payload string) string {
	f, why := pack.Frame(payload)
	if why != api.OK {
		panic("a payload that is too long")
	}
	return f
}

func content(s api.Snap) string { return frame(bytesOf(s)) }

// known is byte by byte what known's bytes are.
const known = "\x02\x01\x02" + "\x01\x03" + "\x01\x02" + "\x01\x01" + "\x01\x07" + "\x01\x02ab"

// wrongBytes are of no right snapshot.
func wrongBytes() map[string]string {
	bad := map[string]string{"no bytes": "", "text": "snapshot", "twice": known + known, "one byte more": known + "\x00", "one byte ahead": "\x00" + known}
	for size := range len(known) {
		bad[fmt.Sprintf("cut to %d", size)] = known[:size]
	}
	for i, s := range wrongs() {
		bad[fmt.Sprintf("wrong one %d", i)] = bytesOf(s)
	}
	for i, s := range []string{
		"\x00\x00\x00",
		"\x00\x00\x00\x00\x00",
		"\x00\x00\x00\x00x",
		"\x01\x00\x00\x00\x00",
		"\x09\x01\x01\x01\x01\x01\x01\x01\x01\x01\x00\x01\x01\x00",
		"\x01\x05\x01\x02\x00\x00",
		"\x01\x05\x01\x02\x01\x01\x01",
		"\x01\x05\x01\x02\x01\x01\x00\x00",
		"\x01\x05\x01\x02\x01\x01\x02\x00\x01\x00",
		"\x01\x05\x01\x02\x02\x00\x01\x01\x01\x00",
		"\x01\x05\x01\x02\x01\x02\x01\x01\x00",
		"\x01\x05\x01\x02\x01\x01\x01\x01\x01\x05abcd",
		"\x01\x05\x01\x02\x01\x01\x01\x01\x01\x03abcd",
		"\x01\x05\x01\x02\x01\x01\x01\x01\x03\x01\x00\x01" + strings.Repeat("x", api.MaxData+1),
		"\x01\x05\x01\x02" + pack.Number(most) + "\x01\x01\x00",
		"\x01\x05\x01\x02" + pack.Number(1<<63) + "\x01\x01\x00",
		"\x01\x05\x01\x02" + pack.Number(1<<32+1) + "\x01\x01\x00",
		"\x01\x05\x01\x02" + pack.Number(257) + "\x01\x01\x00",
	} {
		bad[fmt.Sprintf("bytes %d", i)] = s
	}
	for _, m := range []uint64{0, 8, 255, 256, 257, 1 << 32, 1<<32 + 1, 1 << 63, 1<<63 + 1, most} {
		bad[fmt.Sprintf("the member %d", m)] = "\x01\x05\x01\x02\x01\x01" + pack.Number(m) + "\x00"
		bad[fmt.Sprintf("the member %d behind another one", m)] = "\x01\x05\x01\x02\x01\x02\x01\x01" + pack.Number(m) + "\x00"
	}
	return bad
}

// 5.1: Check, and the one of nothing.
func TestCheck(t *testing.T) {
	for _, s := range rights() {
		if why := snap.Check(s); why != api.OK {
			t.Errorf("%s: error %d", brief(s), why)
		}
	}
	for _, s := range wrongs() {
		if why := snap.Check(s); why != api.ErrForm {
			t.Errorf("%s: error %d", brief(s), why)
		}
	}
}

// 5.1: Encode.
func TestEncode(t *testing.T) {
	if b, why := snap.Encode(api.Snap{Index: 258, Term: 3, Members: []int{1, 7}, Data: "ab"}); b != known || why != api.OK {
		t.Errorf("Encode: %x, error %d", b, why)
	}
	if b, why := snap.Encode(api.Snap{}); b != "\x00\x00\x00\x00" || why != api.OK {
		t.Errorf("Encode of nothing: %x, error %d", b, why)
	}
	for _, s := range rights() {
		if b, why := snap.Encode(s); b != bytesOf(s) || why != api.OK {
			t.Errorf("%s: %d bytes, error %d", brief(s), len(b), why)
		}
	}
	for _, s := range wrongs() {
		if b, why := snap.Encode(s); b != "" || why != api.ErrForm {
			t.Errorf("%s: %d bytes, error %d", brief(s), len(b), why)
		}
	}
}

// 5.1: Decode, and 5.4.
func TestDecode(t *testing.T) {
	if s, why := snap.Decode(known); !sameSnap(s, api.Snap{Index: 258, Term: 3, Members: []int{1, 7}, Data: "ab"}) || why != api.OK {
		t.Errorf("Decode: %s, error %d", brief(s), why)
	}
	for _, s := range rights() {
		b, _ := snap.Encode(s)
		if got, why := snap.Decode(b); !sameSnap(got, s) || why != api.OK {
			t.Errorf("%s: %s, error %d", brief(s), brief(got), why)
		}
	}
	for what, b := range wrongBytes() {
		if s, why := snap.Decode(b); !sameSnap(s, api.Snap{}) || why != api.ErrForm {
			t.Errorf("%s: %s, error %d", what, brief(s), why)
		}
	}
}

// 5.1 and P1: of any bytes; what is decoded has these bytes, and no other one has.
func TestAnyBytes(t *testing.T) {
	look := func(b string) {
		s, why := snap.Decode(b)
		if why == api.OK && (snap.Check(s) != api.OK || bytesOf(s) != b) || why != api.OK && (why != api.ErrForm || !sameSnap(s, api.Snap{})) {
			t.Errorf("%.20x: %s, error %d", b, brief(s), why)
		}
	}
	for bit := range 8 * len(known) {
		b := []byte(known)
		b[bit/8] ^= 1 << (bit % 8)
		look(string(b))
	}
	draw := rand.New(rand.NewSource(5))
	for range 50000 {
		b := make([]byte, draw.Intn(14))
		for i := range b {
			b[i] = byte(draw.Intn(4))
			if draw.Intn(8) == 0 {
				b[i] = byte(draw.Intn(256))
			}
		}
		look(string(b))
	}
}

func others() api.Disk { return disktest.Of(disktest.Beside("snap")...) }

// saved has s, and other files whose names are nearly its own.
func saved(s api.Snap) api.Disk { return disktest.With(others(), disktest.File("snap", content(s))) }

// undone is d with something that a Save did not come to the end of.
func undone(d api.Disk, data string) api.Disk {
	return disktest.With(d, disktest.File("snap.tmp", data))
}

// noSnapshot is a disk of whose file snap this is all.
func noSnapshot(data string) api.Disk { return disktest.With(others(), disktest.File("snap", data)) }

func loads(t *testing.T, what string, d api.Disk, want api.Snap, no api.Errno) {
	t.Helper()
	if s, why := snap.Load(d); !sameSnap(s, want) || why != no {
		t.Errorf("%s: %s, error %d; not %s, error %d", what, brief(s), why, brief(want), no)
	}
}

// 5.1: Load; what is not done, or of others, is not read.
func TestLoad(t *testing.T) {
	some := api.Snap{Index: 77, Term: 2, Members: []int{1, 2}, Data: "another"}
	loads(t, "no files", api.Disk{}, api.Snap{}, api.OK)
	loads(t, "other files", others(), api.Snap{}, api.OK)
	loads(t, "only one that is not done", undone(disktest.Of(), content(some)), api.Snap{}, api.OK)
	loads(t, "byte by byte", noSnapshot(frame(known)), api.Snap{Index: 258, Term: 3, Members: []int{1, 7}, Data: "ab"}, api.OK)
	for _, s := range rights() {
		loads(t, "saved", saved(s), s, api.OK)
		loads(t, "and another one that is not done", undone(saved(s), content(some)), s, api.OK)
	}
	loads(t, "not synced, and no fuse left", api.Disk{Files: []api.File{{Name: "snap", Data: content(some)}}}, some, api.OK)
}

// wrongFiles are no snapshot's.
func wrongFiles() map[string]string {
	whole := frame(known)
	bad := map[string]string{"no bytes": "", "text": "snap", "bare bytes": known, "two frames": whole + whole, "one byte more": whole + "\x00", "one byte ahead": "\x00" + whole}
	for size := range len(whole) {
		bad[fmt.Sprintf("cut to %d", size)] = whole[:size]
	}
	for bit := range 8 * len(whole) {
		b := []byte(whole)
		b[bit/8] ^= 1 << (bit % 8)
		bad[fmt.Sprintf("bit %d turned", bit)] = string(b)
	}
	for what, payload := range wrongBytes() {
		if len(payload) <= api.MaxData {
			bad["payload, "+what] = frame(payload)
		}
	}
	return bad
}

func wrongDisks() map[string]api.Disk {
	list := disktest.Wrong(disktest.File("snap", frame(known)))
	list["and no snapshot"] = api.Disk{Files: []api.File{disktest.File("snap", "x"), disktest.File("a", "")}, Fuse: -1}
	return list
}

// 5.1: the errors of Load, of disks that are not right, or without power; and of files that are not as they are written.
func TestLoadWrong(t *testing.T) {
	for what, d := range wrongDisks() {
		loads(t, what, d, api.Snap{}, api.ErrState)
	}
	for what, d := range map[string]api.Disk{"nothing": {}, "saved": saved(api.Snap{}), "no snapshot": noSnapshot("x")} {
		loads(t, "without power: "+what, disktest.Down(d), api.Snap{}, api.ErrPower)
	}
	for what, data := range wrongFiles() {
		loads(t, what, noSnapshot(data), api.Snap{}, api.ErrForm)
	}
}

// starts are disks on which may be saved what has Index 16 or more.
func starts() map[string]api.Disk {
	old := saved(api.Snap{Index: 16, Term: 2, Members: []int{1, 2, 3}, Data: "old"})
	half := content(api.Snap{Index: 32, Term: 4, Members: []int{1}, Data: "half"})[:9]
	return map[string]api.Disk{
		"nothing":               disktest.Of(),
		"other files":           others(),
		"saved":                 old,
		"the one of nothing":    saved(api.Snap{}),
		"not done":              undone(old, half),
		"not done, not synced":  disktest.With(old, api.File{Name: "snap.tmp", Data: half, Synced: 3}),
		"not done, nothing yet": undone(disktest.Of(), ""),
		"not done, but whole":   undone(others(), content(api.Snap{Index: 99, Members: []int{1}})),
	}
}

// olds are disks on which nothing may be saved that has a lesser Index than the greatest one.
func olds() map[string]api.Disk {
	list := starts()
	list["the greatest one"] = saved(api.Snap{Index: most, Members: []int{1}})
	list["no snapshot"] = noSnapshot("no frame")
	return list
}

// laters have Index 16 or more.
func laters() []api.Snap {
	return slices.DeleteFunc(rights(), func(s api.Snap) bool { return s.Index < 16 })
}

func saves(s api.Snap) disktest.Call {
	return func(d api.Disk) (api.Disk, api.Errno) { return snap.Save(d, s) }
}

func writes(t *testing.T, what string, d api.Disk, s api.Snap) {
	t.Helper()
	if differs := disktest.Differs(d, saves(s), disktest.Rewrite(d, "snap", "snap.tmp", content(s))...); differs != "" {
		t.Errorf("%s, %s, %s", what, brief(s), differs)
	}
	saved, _ := snap.Save(d, s)
	loads(t, what, saved, s, api.OK)
}

func refuses(t *testing.T, what string, d api.Disk, s api.Snap, why api.Errno) {
	t.Helper()
	if differs := disktest.Refuses(d, saves(s), why); differs != "" {
		t.Errorf("%s, %s, %s", what, brief(s), differs)
	}
}

// 5.2: which changes a Save does, in which order, and no other, whenever the power goes.
func TestSave(t *testing.T) {
	for what, d := range starts() {
		for _, s := range laters() {
			writes(t, what, d, s)
		}
	}
}

// 5.2: where there is none, or one of Index 0, all are saved, also that of nothing.
func TestSaveFirst(t *testing.T) {
	for _, s := range rights() {
		writes(t, "nothing", disktest.Of(), s)
		writes(t, "other files", others(), s)
		writes(t, "the one of nothing", saved(api.Snap{}), s)
		writes(t, "one of Index 0", saved(api.Snap{Term: most, Members: []int{1, 2}, Data: "old"}), s)
		writes(t, "not done", undone(disktest.Of(), "x"), s)
	}
}

// 5.2: the chapter's example, and all pairs of Indexes; Terms are no matter. With ErrOrder nothing is done.
func TestSaveOrder(t *testing.T) {
	indexes := []uint64{0, 1, 4, 15, 16, 17, api.MaxNumber, 1 << 63, most - 1, most}
	for _, old := range indexes {
		for _, next := range indexes {
			for _, terms := range [][2]uint64{{2, 2}, {0, most}, {most, 0}} {
				d := saved(api.Snap{Index: old, Term: terms[0], Members: []int{1}, Data: "old"})
				s := api.Snap{Index: next, Term: terms[1], Members: []int{1, 2}, Data: "next"}
				what := fmt.Sprintf("behind %d", old)
				if next >= old {
					writes(t, what, d, s)
					writes(t, what, undone(d, "x"), s)
				} else {
					refuses(t, what, d, s, api.ErrOrder)
					refuses(t, what, undone(d, "x"), s, api.ErrOrder)
				}
			}
		}
	}
	refuses(t, "behind 1", saved(api.Snap{Index: 1, Members: []int{1}}), api.Snap{}, api.ErrOrder)
}

// 5.2: Check's error is the first one: with it nothing is done, and the disk is told, unless it is not right.
func TestSaveWrong(t *testing.T) {
	for _, s := range wrongs() {
		for what, d := range olds() {
			refuses(t, what, d, s, api.ErrForm)
			refuses(t, what+", without power", disktest.Down(d), s, api.ErrForm)
		}
		for what, d := range wrongDisks() {
			refuses(t, what, d, s, api.ErrForm)
		}
	}
}

// 5.2: Load's errors, of disks that are not right, without power, or whose snapshot is none: that is not written over.
func TestSaveState(t *testing.T) {
	for _, s := range []api.Snap{{}, {Index: 16, Term: 2, Members: []int{1}, Data: "next"}, {Index: most, Members: []int{1}}} {
		for what, d := range wrongDisks() {
			refuses(t, what, d, s, api.ErrState)
		}
		for what, d := range olds() {
			refuses(t, what, disktest.Down(d), s, api.ErrPower)
		}
		for what, data := range wrongFiles() {
			refuses(t, what, noSnapshot(data), s, api.ErrForm)
			refuses(t, what+", and one not done", undone(noSnapshot(data), "x"), s, api.ErrForm)
		}
	}
}

// 5.2: a disk without room.
func TestSaveFull(t *testing.T) {
	s := api.Snap{Index: 17, Members: []int{1}}
	files := disktest.Many(api.MaxFiles - 1)
	refuses(t, "no room", disktest.With(disktest.Of(files...), disktest.File("snap", content(api.Snap{Index: 16, Members: []int{1}}))), s, api.ErrFull)
	d, why := snap.Save(undone(disktest.Of(files...), "x"), s)
	if why != api.OK || len(d.Files) != api.MaxFiles {
		t.Errorf("room for one that is not done: %d files, error %d", len(d.Files), why)
	}
	loads(t, "room for one that is not done", d, s, api.OK)
}

// 5.5: wherever the power goes, and whatever is kept; and behind it is saved again.
func TestPower(t *testing.T) {
	next := api.Snap{Index: 32, Term: 5, Members: []int{2, 4, 6}, Data: "what comes next"}
	again := api.Snap{Index: 33, Term: 6, Members: []int{1}}
	for what, start := range starts() {
		old, _ := snap.Load(start)
		for fuse := -1; fuse < 6; fuse++ {
			x, why := snap.Save(disktest.Fused(start, fuse), next)
			for keep := range len(content(next)) + 2 {
				left, no := disk.Crash(x, slices.Repeat([]int{keep}, len(x.Files)))
				s, lost := snap.Load(left)
				isOld, isNext := sameSnap(s, old), sameSnap(s, next)
				if no != api.OK || lost != api.OK || !isOld && !isNext || why == api.OK && !isNext {
					t.Errorf("%s, fuse %d, keeping %d: %s, errors %d, %d, %d", what, fuse, keep, brief(s), why, no, lost)
				}
				d, also := snap.Save(left, again)
				loads(t, what+", saved again", d, again, api.OK)
				if also != api.OK || len(d.Files) != len(theirs(start))+1 {
					t.Errorf("%s, saved again: %s, error %d", what, disktest.Brief(d), also)
				}
			}
		}
	}
}

// 5.2: whatever a Save does, other files are as they were.
func TestOthers(t *testing.T) {
	for what, start := range starts() {
		for fuse := -1; fuse < 6; fuse++ {
			d, _ := snap.Save(disktest.Fused(start, fuse), api.Snap{Index: 40, Members: []int{1}})
			if !slices.Equal(theirs(d), theirs(start)) {
				t.Errorf("%s, fuse %d: other files are changed: %s", what, fuse, disktest.Brief(d))
			}
		}
	}
}

func theirs(d api.Disk) []api.File { return disktest.Without(d, "snap", "snap.tmp").Files }

// 5.3: whatever is written into an answered disk, what was handed in stays as it was, and the other way round; room behind its end, too.
func TestNewDisk(t *testing.T) {
	for what, start := range olds() {
		for _, s := range []api.Snap{{Index: 20, Members: []int{1, 2}, Data: "next"}, {Index: 15, Members: []int{1}}, {Index: 20}} {
			for _, d := range []api.Disk{start, disktest.Down(start)} {
				if shares := disktest.Shares(d, saves(s)); shares != "" {
					t.Errorf("%s, %s, %s", what, brief(s), shares)
				}
			}
		}
	}
}

// 5.3: Members, too, are new in each answer, and those that are handed in are left alone; room behind their end, too.
func TestNewMembers(t *testing.T) {
	for _, s := range append(rights(), wrongs()...) {
		room := append(slices.Clone(s.Members), 77, 78)
		whole := slices.Clone(room)
		given := s
		given.Members = room[:len(s.Members)]
		snap.Check(given)
		b, why := snap.Encode(given)
		d, no := snap.Save(disktest.Of(), given)
		if !slices.Equal(room, whole) || why != no {
			t.Errorf("%s: what was handed in is changed", brief(s))
		}
		for i := range room {
			room[i] = 99
		}
		if why != api.OK {
			continue
		}
		for _, take := range []func() (api.Snap, api.Errno){
			func() (api.Snap, api.Errno) { return snap.Decode(b) },
			func() (api.Snap, api.Errno) { return snap.Load(d) },
		} {
			first, _ := take()
			told := cloneSnap(first)
			again, _ := take()
			again.Members = again.Members[:cap(again.Members)]
			for i := range again.Members {
				again.Members[i] = 99
			}
			if third, _ := take(); !sameSnap(first, told) || !sameSnap(first, s) || !sameSnap(third, s) {
				t.Errorf("%s: the answer shares memory", brief(s))
			}
		}
	}
}
