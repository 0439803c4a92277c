package replica_test

import (
	"math/rand"
	"testing"

	"gaffer/api"
	"gaffer/disk"
	"gaffer/disktest"
	"gaffer/ledgertest"
	"gaffer/logtest"
	"gaffer/replica"
	"gaffer/replicatest"
)

// stray is a replica that was started of nothing, to which anything comes.
type stray struct {
	t               *testing.T
	d               *rand.Rand
	id              int
	first           []int
	x               api.Replica
	all             []api.Msg
	fallen, refused int
}

// begin starts another one.
func (s *stray) begin() {
	s.t.Helper()
	s.id = 1 + s.d.Intn(api.MaxReplicas)
	s.first = [][]int{{s.id}, {1, 2, 3}, {1, 2, 3, 4, 5, 6, 7}}[s.d.Intn(3)]
	s.rise(disktest.Of())
}

func (s *stray) rise(d api.Disk) {
	s.t.Helper()
	var why api.Errno
	was := s.x
	s.x, why = replica.Start(s.id, s.first, d, s.d.Intn(64))
	if why != api.OK || replica.Check(s.x) != api.OK {
		s.t.Fatalf("started: error %d, %s\nwas %s", why, brief(s.x), brief(was))
	}
}

// message is one that x takes for something, or any that is right.
func (s *stray) message() api.Msg {
	m := s.all[s.d.Intn(len(s.all))]
	if l := messages(s.x); s.d.Intn(8) > 0 {
		m = l[s.d.Intn(len(l))]
	}
	if m.Kind == api.MsgInstall && s.d.Intn(9) > 0 {
		m.Snap.Data = packed([]api.Ledger{{}, replicatest.State(), ledgertest.Full()}[s.d.Intn(3)])
	}
	if m.Kind == api.MsgAppend && s.d.Intn(3) == 0 {
		m.Commit = s.x.Raft.Commit + uint64(s.d.Intn(3))
	}
	return m
}

// drawn is a step that is the same, if it is asked again.
func (s *stray) drawn() func(x api.Replica) stepped {
	from, data, draw := 1+s.d.Intn(8), packet(s.message()), s.d.Intn(64)
	return []func(x api.Replica) stepped{
		func(x api.Replica) stepped {
			x, l, a, why := replica.Tick(x, draw)
			return stepped{x, l, a, why}
		},
		func(x api.Replica) stepped {
			x, l, a, why := replica.Call(x, look(uint64(from), uint64(draw), "a"))
			return stepped{x, l, a, why}
		},
		func(x api.Replica) stepped {
			x, l, a, why := replica.Change(x, []int{s.id, s.id + 1})
			return stepped{x, l, a, why}
		},
		func(x api.Replica) stepped {
			x, l, a, why := replica.Take(x, from, data, draw)
			return stepped{x, l, a, why}
		},
	}[[]int{0, 0, 1, 2, 3, 3, 3, 3, 3, 3}[s.d.Intn(10)]]
}

// step is one of any kind, in which the power may go, or behind which it may.
func (s *stray) step() {
	s.t.Helper()
	if s.d.Intn(5) == 0 {
		s.x.Disk.Fuse = s.d.Intn(12)
	}
	was, step := s.x, s.drawn()
	got := step(was)
	isRight := replica.Check(got.X) == api.OK
	isFallen := got.Why == api.ErrPower && got.X.Disk.Down && replicatest.Same(got.X, api.Replica{Id: s.id, Disk: got.X.Disk})
	switch {
	case isFallen:
		s.fallen++
		was.Disk.Fuse = -1
		s.again(was.Raft, step(was).X.Raft, got.X.Disk)
	case !isRight:
		s.t.Fatalf("neither right nor fallen: error %d, %s\nwas %s", got.Why, brief(got.X), brief(was))
	case s.d.Intn(20) == 0:
		s.again(got.X.Raft, got.X.Raft, got.X.Disk)
	default:
		s.x = got.X
	}
	if isRight && got.Why != api.OK {
		s.refused++
	}
}

// again starts it again of what a crash leaves.
func (s *stray) again(was, would api.Raft, d api.Disk) {
	s.t.Helper()
	var keep []int
	for range d.Files {
		keep = append(keep, s.d.Intn(40))
	}
	d, _ = disk.Crash(d, keep)
	s.rise(d)
	if what := forgotten(was, would, s.x.Raft); what != "" {
		s.t.Fatalf("it has forgotten %s: %s", what, brief(s.x))
	}
}

// 17.5 and 17.6: one that was started of nothing is right, or has fallen with the power off, whatever comes, from whomever; and started again it stands by what it sent.
func TestWhateverComes(t *testing.T) {
	t.Parallel()
	s := stray{t: t, d: rand.New(rand.NewSource(17)), all: logtest.RightMsgs()}
	for range 150 {
		s.begin()
		for range 100 {
			s.step()
		}
	}
	if s.fallen < 300 || s.refused < 300 {
		t.Errorf("only %d have fallen, %d are refused", s.fallen, s.refused)
	}
}
