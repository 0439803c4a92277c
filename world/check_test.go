package world_test

import (
	"math"
	"slices"
	"strconv"
	"testing"

	"gaffer/api"
	"gaffer/disktest"
	"gaffer/logtest"
	"gaffer/replicatest"
	"gaffer/world"
)

// firsts are members that are right.
func firsts() [][]int { return [][]int{{1}, {7}, {1, 2, 3}, {2, 4, 6}, {1, 2, 3, 4, 5, 6, 7}} }

// 19.1: New: n of 1 to MaxReplicas; each is up, of an empty disk, and has its Id as draw.
func TestNew(t *testing.T) {
	for n := 1; n <= 7; n++ {
		for _, first := range firsts() {
			want := api.World{First: first}
			for id := 1; id <= n; id++ {
				x := replicatest.Fresh(id, first...)
				x.Raft.Wait, x.Disk.Fuse = 10+id, -1
				want.Slots = append(want.Slots, up(x))
			}
			holds(t, "new", news(t, "new", n, first...), told{W: want})
		}
	}
}

// 19.1: New: ErrRange, whatever first is; then ErrForm.
func TestNewWrong(t *testing.T) {
	wrong := append(logtest.WrongMembers(), nil, []int{})
	for _, n := range []int{0, 8, -1, 9, 257, 1 << 32, 1<<32 + 1, math.MinInt, math.MaxInt} {
		for _, first := range slices.Concat(wrong, firsts()) {
			holds(t, "so many", news(t, "so many", n, first...), told{Why: api.ErrRange})
		}
	}
	for n := 1; n <= 7; n++ {
		for _, first := range wrong {
			holds(t, "wrong first", news(t, "wrong first", n, first...), told{Why: api.ErrForm})
		}
	}
}

// 19.1: Check.
func TestCheck(t *testing.T) {
	for what, w := range rights() {
		if why := world.Check(w); why != api.OK {
			t.Errorf("%s: error %d", what, why)
		}
	}
	for what, w := range wrongs() {
		if why := world.Check(w); why != api.ErrState {
			t.Errorf("%s: error %d", what, why)
		}
	}
}

// kinds are all that there are, none, and some above the last.
func kinds() []api.WorldKind {
	l := []api.WorldKind{255, 128}
	for kind := api.WorldNone; kind <= api.WorldCount+1; kind++ {
		l = append(l, kind)
	}
	return l
}

// 19.1: Do and Round answer first that the world is not right, all else being zero, whatever else is wrong.
func TestWrongWorld(t *testing.T) {
	state := told{Why: api.ErrState}
	for what, w := range wrongs() {
		for i, kind := range kinds() {
			who := []int{0, 1, 3, 99}[i%4]
			holds(t, what, do(t, what, w, api.WorldStep{Kind: kind, Who: who, N: who, Draw: 1 - who}), state)
		}
		holds(t, what, round(t, what, w), state)
		holds(t, what, round(t, what, w, -1, 5), state)
	}
}

// 19.1: a fallen one may have any disk that is right, and nothing else; and P1: nothing that is made by hand is too much.
func TestCheckFallen(t *testing.T) {
	for _, d := range []api.Disk{disktest.Of(), {}, {Down: true}, {Fuse: 7}, disktest.Of(disktest.Many(4096)...), disktest.With(disktest.Of(), disktest.Beside("snap")...)} {
		if why := world.Check(of(api.Slot{Replica: fallen(1, d)})); why != api.OK {
			t.Errorf("%s: error %d", disktest.Brief(d), why)
		}
	}
	for i := range 3 {
		w := with(some(), func(w *api.World) { w.Slots = slices.Delete(w.Slots, i, i+1) })
		if why := world.Check(w); why == api.OK != (i == 2) {
			t.Errorf("without slot %s: error %d", strconv.Itoa(i), why)
		}
	}
}
