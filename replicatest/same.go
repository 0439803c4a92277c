package replicatest

import (
	"slices"
	"strconv"

	"gaffer/api"
	"gaffer/coretest"
	"gaffer/disktest"
	"gaffer/ledgertest"
	"gaffer/logtest"
	"gaffer/memtest"
	"gaffer/msg"
)

// Same takes nil and empty lists for alike.
func Same(a, b api.Replica) bool {
	return a.Id == b.Id && disktest.Same(a.Disk, b.Disk) && coretest.Same(a.Raft, b.Raft) && ledgertest.Same(a.Ledger, b.Ledger) && a.Done == b.Done && slices.Equal(a.Waits, b.Waits)
}

func Clone(x api.Replica) api.Replica {
	x.Disk, x.Raft, x.Ledger, x.Waits = disktest.Clone(x.Disk), coretest.Clone(x.Raft), ledgertest.Clone(x.Ledger), slices.Clone(x.Waits)
	return x
}

// Visit goes through all lists of x; so do the others of what they are given.
func Visit(v *memtest.Visitor, x *api.Replica) {
	VisitDisk(v, &x.Disk)
	coretest.Visit(v, &x.Raft)
	ledgertest.Visit(v, &x.Ledger)
	memtest.Plain(v, &x.Waits, func(n int) api.Wait { return api.Wait{Seq: uint64(n)} })
}

func VisitDisk(v *memtest.Visitor, d *api.Disk) {
	memtest.Plain(v, &d.Files, func(n int) api.File { return api.File{Synced: n} })
}

func VisitPackets(v *memtest.Visitor, l *[]api.Packet) {
	memtest.Plain(v, l, func(n int) api.Packet { return api.Packet{To: n} })
}

func VisitAnswers(v *memtest.Visitor, l *[]api.Answer) {
	memtest.Plain(v, l, func(n int) api.Answer { return api.Answer{Seq: uint64(n)} })
}

// Brief is few words on x, however much is there; so are the others of what they are given.
func Brief(x api.Replica) string {
	s := "{" + strconv.Itoa(x.Id) + ", disk: " + disktest.Brief(x.Disk) + ", " + coretest.Brief(x.Raft) + ", ledger: " + ledgertest.Brief(x.Ledger) + ", Done " + strconv.FormatUint(x.Done, 10) + ", Waits"
	for _, w := range x.Waits[:min(8, len(x.Waits))] {
		s += " " + numbers(w.Index, w.Term, w.Client, w.Seq)
	}
	return s + "}"
}

func BriefPackets(l []api.Packet) string {
	s := strconv.Itoa(len(l)) + " packets"
	for _, p := range l[:min(9, len(l))] {
		s += ", from " + strconv.Itoa(p.From) + " to " + strconv.Itoa(p.To) + " "
		if m, why := msg.Decode(p.Data); why == api.OK {
			s += logtest.BriefMsg(m)
		} else {
			s += strconv.Quote(p.Data[:min(9, len(p.Data))])
		}
	}
	return s
}

func BriefAnswers(l []api.Answer) string {
	s := strconv.Itoa(len(l)) + " answers"
	for _, a := range l[:min(9, len(l))] {
		s += " " + numbers(a.Client, a.Seq, uint64(a.Told.Why)) + strconv.Quote(a.Told.Text)
	}
	return s
}

func numbers(l ...uint64) string {
	s := ""
	for _, n := range l {
		s += strconv.FormatUint(n, 10) + ":"
	}
	return s
}
