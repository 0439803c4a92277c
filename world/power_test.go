package world_test

import (
	"math"
	"slices"
	"testing"

	"gaffer/api"
	"gaffer/disk"
	"gaffer/disktest"
	"gaffer/logtest"
	"gaffer/replica"
	"gaffer/replicatest"
	"gaffer/world"
)

func fall(who int) api.WorldStep { return api.WorldStep{Kind: api.WorldFall, Who: who} }

func rise(who, draw int, keep ...int) api.WorldStep {
	return api.WorldStep{Kind: api.WorldRise, Who: who, Draw: draw, Keep: keep}
}

// 19.2: Fuse: N, or -1, if it is below 0; nothing else changes.
func TestFuse(t *testing.T) {
	for n, want := range map[int]int{0: 0, 1: 1, 9: 9, math.MaxInt: math.MaxInt, -1: -1, -2: -1, -64: -1, math.MinInt: -1} {
		for who := 1; who <= 2; who++ {
			for _, was := range []int{-1, 0, 7} {
				w := fused(some(), who, was)
				holds(t, "a fuse", do(t, "a fuse", w, api.WorldStep{Kind: api.WorldFuse, Who: who, N: n}), told{W: fused(some(), who, want)})
			}
		}
	}
}

// 19.2: Fall: it is not up, and has its Id and its Disk, as that is; of one that fell ErrPower.
func TestFall(t *testing.T) {
	for who := 1; who <= 2; who++ {
		for _, fuse := range []int{-1, 0, 3} {
			w := fused(some(), who, fuse)
			want := with(w, func(w *api.World) { w.Slots[who-1] = down(w.Slots[who-1].Replica) })
			got := do(t, "falls", w, fall(who))
			holds(t, "falls", got, told{W: want})
			stays(t, "falls again", do(t, "falls again", got.W, fall(who)), want, api.ErrPower)
		}
	}
	stays(t, "fell", do(t, "fell", some(), fall(3)), some(), api.ErrPower)
}

// 19.2: Rise: of one that is up ErrState.
func TestRiseUp(t *testing.T) {
	for who := 1; who <= 2; who++ {
		stays(t, "is up", do(t, "is up", some(), rise(who, 0)), some(), api.ErrState)
	}
	got := do(t, "rises", some(), rise(3, 0))
	stays(t, "rises again", do(t, "rises again", got.W, rise(3, 0)), got.W, api.ErrState)
}

// unsure is a disk of which not all is synced: the last entry of a log, and files that are not done.
func unsure() api.Disk {
	x := replicatest.Following()
	d, _ := disktest.Row(x.Disk,
		func(d api.Disk) (api.Disk, api.Errno) { return disk.Add(d, "hard.tmp", "not done") },
		func(d api.Disk) (api.Disk, api.Errno) { return disk.Add(d, "snap.tmp", "nor this") },
	)
	d.Files[len(d.Files)-1].Synced = 5 // the last segment
	return d
}

// 19.2: Rise, with each Keep: started of what a crash leaves, with the world's First, and that draw.
func TestRise(t *testing.T) {
	lists := [][]int{nil, {}, {-1, math.MinInt}, slices.Repeat([]int{math.MaxInt}, 9)}
	for keep := range 40 {
		lists = append(lists, slices.Repeat([]int{keep}, 9), []int{keep, 40 - keep, keep}, []int{0, 0, 0, 0, keep})
	}
	logs := map[int]int{}
	for _, first := range firsts() {
		for i, keep := range lists {
			w := with(some(), func(w *api.World) {
				w.First = first
				w.Slots[2].Replica.Disk = disktest.Fused(unsure(), i%3-1)
				w.Slots[2].Replica.Disk.Down = i%2 == 0
			})
			d, _ := disk.Crash(w.Slots[2].Replica.Disk, keep)
			x, why := replica.Start(3, first, d, 60+i)
			want := with(w, func(w *api.World) { w.Slots[2] = up(x) })
			got := do(t, "rises", w, rise(3, 60+i, keep...))
			holds(t, "rises", got, told{W: want, Why: why})
			r := got.W.Slots[2].Replica
			if why != api.OK || r.Disk.Down || r.Disk.Fuse != -1 || !slices.Equal(r.Raft.First, first) || r.Raft.Wait != 10+(60+i)%64 || r.Raft.Role != api.RoleFollow {
				t.Errorf("keep %v: error %d, %s", keep, why, replicatest.Brief(r))
			}
			logs[len(r.Raft.Log.Entries)]++
		}
	}
	if len(logs) < 2 {
		t.Errorf("so many entries are left: %v", logs)
	}
}

// 19.2: Rise, with a disk of which no replica can be made: Start's error, and it is what Start says, not up: it has fallen, with the disk that the crash left, and that is so again.
func TestRiseOfNothing(t *testing.T) {
	for what, one := range map[string]struct {
		files []api.File
		why   api.Errno
	}{
		"no term":             {[]api.File{disktest.File("hard", "?")}, api.ErrForm},
		"no snapshot":         {[]api.File{disktest.File("snap", "?")}, api.ErrForm},
		"no segment":          {[]api.File{disktest.File("w/?", "")}, api.ErrForm},
		"a gap":               {[]api.File{disktest.File("w/0000000000000001", segment(1)), disktest.File("w/0000000000000003", segment(3))}, api.ErrGap},
		"a log of no term":    {[]api.File{disktest.File("w/0000000000000001", segment(1))}, api.ErrState},
		"no term, and more":   {append(disktest.Many(4), api.File{Name: "hard", Data: "?", Synced: 1}, api.File{Name: "w/?", Data: "xyz", Synced: 1}), api.ErrForm},
		"nothing, none is so": {nil, api.OK},
	} {
		for _, isDown := range []bool{false, true} {
			w := with(some(), func(w *api.World) { w.Slots[2].Replica.Disk = disktest.Of(one.files...) })
			w.Slots[2].Replica.Disk.Down, w.Slots[2].Replica.Disk.Fuse = isDown, 5
			got := do(t, what, w, rise(3, 0, 9, 9, 9, 9, 9, 1))
			holds(t, what, got, modelDo(w, rise(3, 0, 9, 9, 9, 9, 9, 1)))
			d, _ := disk.Crash(w.Slots[2].Replica.Disk, []int{9, 9, 9, 9, 9, 1})
			if got.Why != one.why || got.W.Slots[2].Up != (one.why == api.OK) {
				t.Errorf("%s: error %d, %s", what, got.Why, brief(got.W))
			}
			if one.why != api.OK {
				stays(t, what, got, with(w, func(w *api.World) { w.Slots[2].Replica = fallen(3, d) }), one.why)
				stays(t, what+", again", do(t, what, got.W, rise(3, 0)), got.W, one.why)
				stays(t, what+", a tick", do(t, what, got.W, step(api.WorldTick, 3)), got.W, api.ErrPower)
			}
		}
	}
}

// segment is of one entry, of Term 1.
func segment(index uint64) string {
	for _, f := range replicatest.Kept(api.Raft{Log: api.Log{Base: index - 1, Entries: []api.Entry{logtest.Lead(index, 1)}}}).Files {
		if f.Name[0] == 'w' {
			return f.Data
		}
	}
	return ""
}

// busy are steps of replicas that change their disks, each in a world of its own.
func busy() map[string]struct {
	w api.World
	s api.WorldStep
} {
	stands := replicatest.With(replicatest.Following(), func(x *api.Replica) { x.Raft.Wait = 1 })
	alone := of(up(replicatest.Alone()))
	member := alone
	for range 20 {
		member, _, _ = world.Do(member, api.WorldStep{Kind: api.WorldCall, Who: 1, Command: look(1, uint64(member.Slots[0].Replica.Done), "a")})
	}
	return map[string]struct {
		w api.World
		s api.WorldStep
	}{
		"a tick":           {slot(up(stands)), step(api.WorldTick, 2)},
		"a snapshot":       {member, step(api.WorldTick, 1)},
		"a call":           {alone, step(api.WorldCall, 1)},
		"a call of three":  {some(), step(api.WorldCall, 2)},
		"a change":         {alone, api.WorldStep{Kind: api.WorldChange, Who: 1, Members: []int{1, 2}}},
		"a packet, a vote": {some(), give(1)},
	}
}

// 19.2: a fuse of each change that a step does: as long as it is too short the replica has fallen, with the disk as it is then, ErrPower is told, and nothing is sent or answered; then all is as it was to be, with as much less of the fuse.
func TestFuses(t *testing.T) {
	for what, one := range busy() {
		who := max(1, one.s.Who)
		whole := do(t, what, one.w, one.s)
		fuse := 0
		for ; fuse < 30; fuse++ {
			w := fused(one.w, who, fuse)
			got := do(t, what, w, one.s)
			holds(t, what, got, modelDo(w, one.s))
			x := got.W.Slots[who-1]
			if got.Why == api.OK {
				holds(t, what, told{W: fused(got.W, who, -1), Answers: got.Answers}, whole)
				break
			}
			fell := with(one.w, func(w *api.World) {
				w.Slots[who-1] = api.Slot{Replica: fallen(who, x.Replica.Disk)}
				if one.s.Kind == api.WorldGive {
					*w = lost(*w, one.s.N)
				}
			})
			stays(t, what, got, fell, api.ErrPower)
			if !x.Replica.Disk.Down || disktest.Same(x.Replica.Disk, w.Slots[who-1].Replica.Disk) {
				t.Errorf("%s: fuse %d: %s", what, fuse, brief(got.W))
			}
		}
		if whole.Why != api.OK || fuse < 2 || fuse == 30 {
			t.Errorf("%s: error %d, %d changes", what, whole.Why, fuse)
		}
	}
}

// 19.2: one whose disk has no room for a new file falls, too, though its power is on: ErrPower, whatever the disk said.
func TestFallsOfFullDisk(t *testing.T) {
	x := replicatest.Alone(replicatest.Task(2, 1), replicatest.Task(3, 1), replicatest.Task(4, 1))
	x.Disk = disktest.With(x.Disk, disktest.Many(4096-len(x.Disk.Files))...)
	w := of(up(x))
	got := do(t, "a full disk", w, step(api.WorldCall, 1))
	if got.W.Slots[0].Up || got.Why != api.ErrPower || got.W.Slots[0].Replica.Disk.Down {
		t.Errorf("error %d, %s", got.Why, brief(got.W))
	}
	holds(t, "a full disk", got, modelDo(w, step(api.WorldCall, 1)))
}
