package net_test

import (
	"slices"
	"strconv"
	"strings"
	"testing"

	"gaffer/api"
	"gaffer/memtest"
	"gaffer/net"
)

func packet(from, to int, data string) api.Packet {
	return api.Packet{From: from, To: to, Data: data}
}

// many are n packets, no two of which are one.
func many(n int) []api.Packet {
	var l []api.Packet
	for i := range n {
		l = append(l, packet(1+i%7, 1+(i+1+i/7%6)%7, strconv.Itoa(i)))
	}
	return l
}

func of(l ...api.Packet) api.Net { return api.Net{Packets: l} }

// right are packets at all edges.
func right() []api.Packet {
	var l []api.Packet
	for from := 1; from <= 7; from++ {
		for to := 1; to <= 7; to++ {
			if from != to {
				l = append(l, packet(from, to, ""), packet(from, to, "\x00\xff"))
			}
		}
	}
	return append(l, packet(1, 7, strings.Repeat("x", 2*api.MaxData)))
}

// wrong are packets that are not right.
func wrong() []api.Packet {
	var l []api.Packet
	for _, id := range []int{0, 8, -1, 9, 257, 1 << 32, 1<<32 + 1, -1 << 63, 1<<63 - 1} {
		l = append(l, packet(id, 1, "x"), packet(1, id, "x"), packet(id, id, ""))
	}
	for id := range 8 {
		l = append(l, packet(id, id, "x"))
	}
	return append(l, api.Packet{})
}

// wrongs are nets that are not right.
func wrongs() map[string]api.Net {
	list := map[string]api.Net{
		"one too many": of(many(4097)...),
		"far too many": of(many(20000)...),
	}
	for i, p := range wrong() {
		n := strconv.Itoa(i)
		list["alone, "+n] = of(p)
		list["the first, "+n] = of(append([]api.Packet{p}, many(3)...)...)
		list["the last, "+n] = of(append(many(3), p)...)
	}
	list["the last of all"] = of(append(many(4095), packet(3, 3, ""))...)
	return list
}

// given are all lists that a call is handed, told is all that it tells; what it has not is zero.
type given struct {
	N api.Net
	L []api.Packet
}

type told struct {
	N   api.Net
	L   []api.Packet
	P   api.Packet
	Put int
	Why api.Errno
}

func visit(v *memtest.Visitor, l *[]api.Packet) {
	memtest.Plain(v, l, func(n int) api.Packet { return packet(n, n, "visited") })
}

// anew holds 18.2 and P3: what is handed in stays as it was, the room behind its lists, too; asked again the answer is the same; and no two lists of all these share memory. And of P2: beside an error there is nothing.
func anew(t *testing.T, what string, g given, call func(g given) told) told {
	t.Helper()
	in := memtest.Kind[given]{Visit: func(v *memtest.Visitor, g *given) {
		visit(v, &g.N.Packets)
		visit(v, &g.L)
	}}
	got, wrong := memtest.Anew(g, in, call, memtest.Kind[told]{
		Visit: func(v *memtest.Visitor, a *told) {
			visit(v, &a.N.Packets)
			visit(v, &a.L)
		},
		Same: same,
	})
	if wrong != "" {
		t.Errorf("%s: %s", what, wrong)
	}
	if got.Why != api.OK && !same(got, told{Why: got.Why}) {
		t.Errorf("%s: beside error %d there is something", what, got.Why)
	}
	if why := net.Check(got.N); why != api.OK {
		t.Errorf("%s: what became of it is not right: error %d", what, why)
	}
	return got
}

func same(a, b told) bool {
	return slices.Equal(a.N.Packets, b.N.Packets) && slices.Equal(a.L, b.L) && a.P == b.P && a.Put == b.Put && a.Why == b.Why
}

func send(t *testing.T, what string, n api.Net, l ...api.Packet) told {
	t.Helper()
	return anew(t, what, given{n, l}, func(g given) told {
		n, put, why := net.Send(g.N, g.L)
		return told{N: n, Put: put, Why: why}
	})
}

func give(t *testing.T, what string, n api.Net, i int) told {
	t.Helper()
	return anew(t, what, given{N: n}, func(g given) told {
		n, p, why := net.Give(g.N, i)
		return told{N: n, P: p, Why: why}
	})
}

func twice(t *testing.T, what string, n api.Net, i int) told {
	t.Helper()
	return anew(t, what, given{N: n}, func(g given) told {
		n, why := net.Twice(g.N, i)
		return told{N: n, Why: why}
	})
}

func take(t *testing.T, what string, n api.Net) told {
	t.Helper()
	return anew(t, what, given{N: n}, func(g given) told {
		l, n, why := net.Take(g.N)
		return told{N: n, L: l, Why: why}
	})
}

// holds holds all that is told against what is to be.
func holds(t *testing.T, what string, got, want told) {
	t.Helper()
	if !same(got, want) {
		t.Errorf("%s: %s; not %s", what, brief(got), brief(want))
	}
}

// brief is few words on what is told, however much is there.
func brief(a told) string {
	s := "error " + strconv.Itoa(int(a.Why)) + ", put " + strconv.Itoa(a.Put) + ", " + briefOf(a.P)
	for _, l := range [][]api.Packet{a.N.Packets, a.L} {
		s += ", " + strconv.Itoa(len(l)) + " packets"
		for _, p := range l[:min(9, len(l))] {
			s += " " + briefOf(p)
		}
	}
	return s
}

func briefOf(p api.Packet) string {
	return strconv.Itoa(p.From) + ">" + strconv.Itoa(p.To) + strconv.Quote(p.Data[:min(9, len(p.Data))])
}
