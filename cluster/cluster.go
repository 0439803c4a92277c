// Package cluster makes and takes the bytes of nodes, of tasks, and of what is told of them, for the layers whose things have some.
package cluster

import (
	"gaffer/api"
	"gaffer/parts"
)

// WhyMax is the greatest number that an error may have where it is told.
const WhyMax = 255

const rankLift = 1000 // goes on top of a Rank, for a number is not below 0

// Maker makes them of right ones.
type Maker struct{ parts.Maker }

func (m *Maker) Node(n api.Node) {
	m.Text(n.Name)
	m.amounts(n.Has)
	m.pairs(n.Labels)
	m.pairs(n.Taints)
}

func (m *Maker) Task(t api.Task) {
	m.Text(t.Name)
	m.amounts(t.Needs)
	m.pairs(t.Wants)
	m.pairs(t.Bears)
	m.Text(t.Group)
	m.Text(t.Apart)
	m.Number(uint64(t.Rank + rankLift))
}

func (m *Maker) Told(t api.Told) {
	m.Number(uint64(t.Why))
	m.Text(t.Text)
}

func (m *Maker) amounts(l [api.Kinds]int64) {
	for _, amount := range l {
		m.Number(uint64(amount))
	}
}

func (m *Maker) pairs(l []api.Pair) {
	m.Times(len(l), func(at int) {
		m.Text(l[at].Key)
		m.Text(l[at].Value)
	})
}

// Taker takes them; whether they are right is still to be asked.
type Taker struct{ parts.Taker }

// Of takes from these bytes.
func Of(s string) Taker {
	return Taker{parts.Of(s)}
}

func (t *Taker) Node() api.Node {
	var n api.Node
	n.Name = t.Text()
	n.Has = t.amounts()
	n.Labels = t.pairs()
	n.Taints = t.pairs()
	return n
}

func (t *Taker) Task() api.Task {
	var k api.Task
	k.Name = t.Text()
	k.Needs = t.amounts()
	k.Wants = t.pairs()
	k.Bears = t.pairs()
	k.Group = t.Text()
	k.Apart = t.Text()
	k.Rank = int(t.Upto(2*rankLift)) - rankLift
	return k
}

func (t *Taker) Told() api.Told {
	var told api.Told
	told.Why = api.Errno(t.Upto(WhyMax))
	told.Text = t.Text()
	return told
}

func (t *Taker) amounts() [api.Kinds]int64 {
	var l [api.Kinds]int64
	for kind := range l {
		l[kind] = int64(t.Upto(api.MaxAmount))
	}
	return l
}

func (t *Taker) pairs() []api.Pair {
	var l []api.Pair
	t.Times(api.MaxPairs, func() {
		var p api.Pair
		p.Key = t.Text()
		p.Value = t.Text()
		l = append(l, p)
	})
	return l
}
