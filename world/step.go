package world

import (
	"gaffer/api"
	"gaffer/disk"
	"gaffer/net"
	"gaffer/replica"
)

// refuse tells why a step may not happen in w, whoever is up there.
func refuse(w api.World, s api.WorldStep) api.Errno {
	var names, draws bool
	switch s.Kind {
	case api.WorldTick, api.WorldRise:
		names, draws = true, true
	case api.WorldGive:
		draws = true
	case api.WorldTwice, api.WorldLose:
	case api.WorldFuse, api.WorldFall, api.WorldCall, api.WorldChange:
		names = true
	default:
		return api.ErrForm
	}
	if names && (s.Who < 1 || s.Who > len(w.Slots)) || draws && s.Draw < 0 {
		return api.ErrRange
	}
	return api.OK
}

// do is asked of steps that are not refused: so Who is there, if the kind names one.
func (t *turn) do(s api.WorldStep) api.Errno {
	var why api.Errno
kinds:
	switch s.Kind {
	case api.WorldTick:
		why = t.tick(s.Who, s.Draw)
	case api.WorldGive, api.WorldLose:
		p, no := t.pick(s.N)
		if why = no; why != api.OK || s.Kind == api.WorldLose {
			break kinds // it comes to nobody
		}
		why = t.take(p, s.Draw)
	case api.WorldTwice:
		why = t.twice(s.N)
	case api.WorldFuse:
		why = t.fuse(s.Who, s.N)
	case api.WorldFall:
		why = t.fall(s.Who)
	case api.WorldRise:
		why = t.rise(s.Who, s.Keep, s.Draw)
	case api.WorldCall:
		why = t.step(s.Who, func(x api.Replica) (api.Replica, []api.Packet, []api.Answer, api.Errno) {
			return replica.Call(x, s.Command)
		})
	case api.WorldChange:
		why = t.step(s.Who, func(x api.Replica) (api.Replica, []api.Packet, []api.Answer, api.Errno) {
			return replica.Change(x, s.Members)
		})
	}
	return why
}

// pick takes a packet out of the net.
func (t *turn) pick(i int) (api.Packet, api.Errno) {
	n, p, why := net.Give(t.Net, i)
	if why != api.OK {
		return api.Packet{}, why
	}
	t.Net = n
	return p, api.OK
}

func (t *turn) twice(i int) api.Errno {
	n, why := net.Twice(t.Net, i)
	if why != api.OK {
		return why
	}
	t.Net = n
	return api.OK
}

func (t *turn) fuse(who, changes int) api.Errno {
	if !t.isUp(who) {
		return api.ErrPower
	}
	t.Slots[who-1].Replica.Disk.Fuse = max(-1, changes)
	return api.OK
}

func (t *turn) fall(who int) api.Errno {
	if !t.isUp(who) {
		return api.ErrPower
	}
	t.Slots[who-1] = api.Slot{Replica: fallen(t.Slots[who-1].Replica)}
	return api.OK
}

func (t *turn) rise(who int, keep []int, draw int) api.Errno {
	if t.isUp(who) {
		return api.ErrState
	}
	d, _ := disk.Crash(t.Slots[who-1].Replica.Disk, keep) // is right
	x, why := replica.Start(who, t.First, d, draw)
	t.Slots[who-1] = api.Slot{Up: why == api.OK, Replica: x}
	return why
}
