package replica_test

import (
	"testing"

	"gaffer/api"
	"gaffer/ordertest"
	"gaffer/replica"
	"gaffer/replicatest"
)

// 17.1: Check: a replica is right with a disk that is, and has power, a Raft of the same Id, a ledger, with Done from Base to Commit, and Waits that rise, above Done, up to the end.
func TestCheck(t *testing.T) {
	for what, x := range replicatest.Rights() {
		given := replicatest.Clone(x)
		if why := replica.Check(given); why != api.OK || !replicatest.Same(given, x) {
			t.Errorf("%s: error %d", what, why)
		}
	}
	for what, x := range replicatest.Wrongs() {
		given := replicatest.Clone(x)
		if why := replica.Check(given); why != api.ErrState || !replicatest.Same(given, x) {
			t.Errorf("%s: error %d", what, why)
		}
	}
}

// 17.1: the others answer first that the replica is not right, all else being zero, whatever else is wrong.
func TestWrongReplica(t *testing.T) {
	ask := packet(ask(9, 9, 9))
	look := api.Command{Client: 1, Order: ordertest.Named(api.OrderLook, "a")}
	for what, x := range replicatest.Wrongs() {
		for _, draw := range []int{0, -1} {
			refused(t, what, tick(t, what, x, draw), api.ErrState)
			refused(t, what, take(t, what, x, 1, ask, draw), api.ErrState)
			refused(t, what, take(t, what, x, 0, "?", draw), api.ErrState)
		}
		refused(t, what, call(t, what, x, look), api.ErrState)
		refused(t, what, call(t, what, x, api.Command{}), api.ErrState)
		refused(t, what, change(t, what, x, 1, 2), api.ErrState)
		refused(t, what, change(t, what, x), api.ErrState)
	}
}
