package replicatest_test

import (
	"testing"

	"gaffer/api"
	"gaffer/memtest"
	"gaffer/replica"
	"gaffer/replicatest"
)

// What is said of replicas is so.
func TestRightAndWrong(t *testing.T) {
	for what, x := range replicatest.Rights() {
		if why := replica.Check(x); why != api.OK {
			t.Errorf("right replica %s: error %d", what, why)
		}
	}
	for what, x := range replicatest.Wrongs() {
		if why := replica.Check(x); why == api.OK {
			t.Errorf("wrong replica %s is right", what)
		}
	}
}

// A replica that lasts on its disk is started again as it was, but that it follows, and does again what is behind its snapshot.
func TestKept(t *testing.T) {
	for what, x := range map[string]api.Replica{"follows": replicatest.Following(), "leads": replicatest.Leading(), "alone": replicatest.Alone(replicatest.Task(2, 1))} {
		got, why := replica.Start(x.Id, x.Raft.First, x.Disk, 0)
		want := replicatest.Undone(x, x.Raft.Log.Base)
		r := &want.Raft
		r.Role, r.Leader, r.Votes, r.Peers, r.Commit, r.Wait = api.RoleFollow, 0, nil, nil, r.Log.Base, api.MinWait
		if why != api.OK || !replicatest.Same(got, want) {
			t.Errorf("%s: error %d, %s; not %s", what, why, replicatest.Brief(got), replicatest.Brief(want))
		}
	}
}

// some has something in each field.
func some() api.Replica { return replicatest.Waiting(replicatest.Leading(), 4, 6, 7) }

// Each field counts, nil and empty lists are alike.
func TestSame(t *testing.T) {
	if !replicatest.Same(some(), replicatest.Clone(some())) || !replicatest.Same(api.Replica{}, api.Replica{Waits: []api.Wait{}, Disk: api.Disk{Files: []api.File{}}}) {
		t.Error("what is alike is told to be another one")
	}
	for i, change := range []func(x *api.Replica){
		func(x *api.Replica) { x.Id++ },
		func(x *api.Replica) { x.Disk.Fuse++ },
		func(x *api.Replica) { x.Disk.Files[0].Data = "x" },
		func(x *api.Replica) { x.Raft.Log.Entries[1].Members[0]++ },
		func(x *api.Replica) { x.Raft.Wait++ },
		func(x *api.Replica) { x.Ledger.Clients = nil },
		func(x *api.Replica) { x.Ledger.Book.Fence++ },
		func(x *api.Replica) { x.Done++ },
		func(x *api.Replica) { x.Waits = x.Waits[:1] },
		func(x *api.Replica) { x.Waits[1].Index++ },
		func(x *api.Replica) { x.Waits[1].Term++ },
		func(x *api.Replica) { x.Waits[0].Client++ },
		func(x *api.Replica) { x.Waits[0].Seq++ },
	} {
		other := replicatest.With(some(), change)
		if replicatest.Same(other, some()) || replicatest.Brief(other) == replicatest.Brief(some()) {
			t.Errorf("change %d is not seen", i)
		}
	}
}

// All lists of a replica are gone to.
func TestVisit(t *testing.T) {
	kind := memtest.Kind[api.Replica]{Visit: replicatest.Visit, Same: replicatest.Same}
	for i, share := range []func(x, other *api.Replica){
		func(x, other *api.Replica) {},
		func(x, other *api.Replica) { other.Disk.Files = x.Disk.Files },
		func(x, other *api.Replica) { other.Raft.First = x.Raft.First },
		func(x, other *api.Replica) { other.Raft.Log.Entries[1].Members = x.Raft.Log.Entries[1].Members },
		func(x, other *api.Replica) { other.Raft.Peers = x.Raft.Peers },
		func(x, other *api.Replica) { other.Ledger.Clients = x.Ledger.Clients },
		func(x, other *api.Replica) { other.Ledger.Book.Tasks[1].Bears = x.Ledger.Book.Tasks[1].Bears },
		func(x, other *api.Replica) { other.Waits = x.Waits },
	} {
		_, wrong := memtest.Anew(some(), kind, func(x api.Replica) api.Replica {
			other := replicatest.Clone(x)
			share(&x, &other)
			return other
		}, kind)
		if (wrong == "") != (i == 0) {
			t.Errorf("%d: %q", i, wrong)
		}
	}
}
