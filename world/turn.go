package world

import (
	"slices"

	"gaffer/api"
	"gaffer/net"
	"gaffer/replica"
)

// turn is a right world, in memory of its own, in which something happens, and what is answered meanwhile.
type turn struct {
	api.World
	answers []api.Answer
}

// doing is a step of a replica, with all that it is given but the replica.
type doing func(x api.Replica) (api.Replica, []api.Packet, []api.Answer, api.Errno)

func begin(w api.World) *turn {
	w.First, w.Slots, w.Net.Packets = slices.Clone(w.First), slices.Clone(w.Slots), slices.Clone(w.Net.Packets)
	for i, s := range w.Slots {
		w.Slots[i].Replica = own(s)
	}
	return &turn{World: w}
}

// own is what is in a slot, in memory of its own.
func own(s api.Slot) api.Replica {
	if !s.Up {
		return fallen(s.Replica)
	}
	x, _, _, _ := replica.Tick(s.Replica, -1) // is refused, so that all is told as it was, but anew
	return x
}

// fallen is what is left of one whose power went.
func fallen(x api.Replica) api.Replica {
	d := x.Disk
	d.Files = slices.Clone(d.Files)
	return api.Replica{Id: x.Id, Disk: d}
}

func (t *turn) isUp(who int) bool {
	return who <= len(t.Slots) && t.Slots[who-1].Up
}

// step is of one who is there. Nothing is sent or answered by one that falls.
func (t *turn) step(who int, do doing) api.Errno {
	if !t.isUp(who) {
		return api.ErrPower
	}
	slot := &t.Slots[who-1]
	x, sent, answers, why := do(slot.Replica)
	slot.Replica = x
	if replica.Check(x) != api.OK {
		slot.Up = false
		return api.ErrPower
	}
	t.Net, _, _ = net.Send(t.Net, sent)
	t.answers = append(t.answers, answers...)
	return why
}

func (t *turn) tick(who, draw int) api.Errno {
	return t.step(who, func(x api.Replica) (api.Replica, []api.Packet, []api.Answer, api.Errno) {
		return replica.Tick(x, draw)
	})
}

// take is of a packet that is in the net no more: what its taker says against it is no matter, but that it falls is.
func (t *turn) take(p api.Packet, draw int) api.Errno {
	if !t.isUp(p.To) {
		return api.OK
	}
	t.step(p.To, func(x api.Replica) (api.Replica, []api.Packet, []api.Answer, api.Errno) {
		return replica.Take(x, p.From, p.Data, draw)
	})
	if !t.isUp(p.To) {
		return api.ErrPower
	}
	return api.OK
}

// round gives what is under way as it begins; what is sent meanwhile comes in a later one.
func (t *turn) round(draw func(who int) int) {
	coming := t.coming()
packets:
	for {
		select {
		case p := <-coming:
			t.take(p, draw(p.To))
		default: // there is no more
			break packets
		}
	}
	for i := range t.Slots {
		t.tick(i+1, draw(i+1))
	}
}

// coming has all that is under way, and leaves a net of none.
func (t *turn) coming() <-chan api.Packet {
	l, n, _ := net.Take(t.Net)
	t.Net = n
	coming := make(chan api.Packet, len(l))
	for _, p := range l {
		coming <- p
	}
	return coming
}
