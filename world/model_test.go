package world_test

import (
	"slices"

	"gaffer/api"
	"gaffer/disk"
	"gaffer/replica"
)

// The chapter's words, one by one, of right worlds.

func isKind(kind api.WorldKind, list ...api.WorldKind) bool { return slices.Contains(list, kind) }

func modelDo(w api.World, s api.WorldStep) told {
	w = clone(w)
	refused := func(why api.Errno) told { return told{W: w, Why: why} }
	hasWho := isKind(s.Kind, api.WorldTick, api.WorldFuse, api.WorldFall, api.WorldRise, api.WorldCall, api.WorldChange)
	hasDraw := isKind(s.Kind, api.WorldTick, api.WorldGive, api.WorldRise)
	hasN := isKind(s.Kind, api.WorldGive, api.WorldTwice, api.WorldLose)
	switch {
	case s.Kind < 1 || s.Kind > 9:
		return refused(api.ErrForm)
	case hasWho && (s.Who < 1 || s.Who > len(w.Slots)), hasDraw && s.Draw < 0, hasN && (s.N < 0 || s.N >= len(w.Net.Packets)):
		return refused(api.ErrRange)
	case s.Kind == api.WorldRise && w.Slots[s.Who-1].Up:
		return refused(api.ErrState)
	case s.Kind == api.WorldTwice && len(w.Net.Packets) == 4096:
		return refused(api.ErrFull)
	case hasWho && s.Kind != api.WorldRise && !w.Slots[s.Who-1].Up:
		return refused(api.ErrPower)
	}
	switch s.Kind {
	case api.WorldTick:
		return modelStep(w, s.Who, func(x api.Replica) (api.Replica, []api.Packet, []api.Answer, api.Errno) {
			return replica.Tick(x, s.Draw)
		})
	case api.WorldCall:
		return modelStep(w, s.Who, func(x api.Replica) (api.Replica, []api.Packet, []api.Answer, api.Errno) {
			return replica.Call(x, s.Command)
		})
	case api.WorldChange:
		return modelStep(w, s.Who, func(x api.Replica) (api.Replica, []api.Packet, []api.Answer, api.Errno) {
			return replica.Change(x, s.Members)
		})
	case api.WorldTwice:
		w.Net.Packets = append(w.Net.Packets, w.Net.Packets[s.N])
		return told{W: w}
	}
	if hasN {
		p := w.Net.Packets[s.N]
		w.Net.Packets = slices.Delete(w.Net.Packets, s.N, s.N+1)
		if s.Kind == api.WorldLose || p.To > len(w.Slots) || !w.Slots[p.To-1].Up {
			return told{W: w}
		}
		return modelTake(w, p, s.Draw)
	}
	return modelPower(w, s)
}

func modelStep(w api.World, who int, step func(x api.Replica) (api.Replica, []api.Packet, []api.Answer, api.Errno)) told {
	x, sent, answers, why := step(w.Slots[who-1].Replica)
	if replica.Check(x) != api.OK {
		w.Slots[who-1] = api.Slot{Replica: x}
		return told{W: w, Why: api.ErrPower}
	}
	w.Slots[who-1].Replica = x
	for _, p := range sent {
		if len(w.Net.Packets) < 4096 {
			w.Net.Packets = append(w.Net.Packets, p)
		}
	}
	return told{w, answers, why}
}

func modelTake(w api.World, p api.Packet, draw int) told {
	got := modelStep(w, p.To, func(x api.Replica) (api.Replica, []api.Packet, []api.Answer, api.Errno) {
		return replica.Take(x, p.From, p.Data, draw)
	})
	if got.W.Slots[p.To-1].Up {
		got.Why = api.OK
	}
	return got
}

func modelPower(w api.World, s api.WorldStep) told {
	slot := &w.Slots[s.Who-1]
	switch s.Kind {
	case api.WorldFuse:
		slot.Replica.Disk.Fuse = s.N
		if s.N < 0 {
			slot.Replica.Disk.Fuse = -1
		}
	case api.WorldFall:
		*slot = api.Slot{Replica: fallen(s.Who, slot.Replica.Disk)}
	case api.WorldRise:
		d, _ := disk.Crash(slot.Replica.Disk, s.Keep)
		x, why := replica.Start(s.Who, w.First, d, s.Draw)
		*slot = api.Slot{Up: why == api.OK, Replica: x}
		return told{W: w, Why: why}
	}
	return told{W: w}
}

func modelRound(w api.World, draws []int) told {
	w = clone(w)
	draw := func(who int) int {
		if who > len(draws) || draws[who-1] < 0 {
			return 0
		}
		return draws[who-1]
	}
	var answers []api.Answer
	packets := w.Net.Packets
	w.Net.Packets = nil
	for _, p := range packets {
		if p.To <= len(w.Slots) && w.Slots[p.To-1].Up {
			got := modelTake(w, p, draw(p.To))
			w, answers = got.W, append(answers, got.Answers...)
		}
	}
	for who := 1; who <= len(w.Slots); who++ {
		if w.Slots[who-1].Up {
			got := modelStep(w, who, func(x api.Replica) (api.Replica, []api.Packet, []api.Answer, api.Errno) {
				return replica.Tick(x, draw(who))
			})
			w, answers = got.W, append(answers, got.Answers...)
		}
	}
	return told{W: w, Answers: answers}
}
