package net_test

import (
	"math/rand"
	"slices"
	"strconv"
	"testing"

	"gaffer/api"
	"gaffer/net"
)

// 18.1: Check: a net has at most MaxPackets, each from and to a replica, and not from one to itself.
func TestCheck(t *testing.T) {
	for what, n := range map[string]api.Net{"nothing": {}, "an empty list": of([]api.Packet{}...), "one": of(many(1)...), "at all edges": of(right()...), "one twice": of(packet(1, 2, "a"), packet(1, 2, "a")), "all but full": of(many(4095)...), "full": of(many(4096)...)} {
		if why := net.Check(n); why != api.OK {
			t.Errorf("%s: error %d", what, why)
		}
	}
	for what, n := range wrongs() {
		if why := net.Check(n); why != api.ErrState {
			t.Errorf("%s: error %d", what, why)
		}
	}
}

// 18.1: the others answer first that the net is not right, all else being zero, whatever else is wrong.
func TestWrongNet(t *testing.T) {
	for what, n := range wrongs() {
		for _, got := range []told{send(t, what, n), send(t, what, n, many(2)...), send(t, what, n, wrong()...), give(t, what, n, 0), give(t, what, n, -1), twice(t, what, n, 0), twice(t, what, n, len(n.Packets)), take(t, what, n)} {
			holds(t, what, got, told{Why: api.ErrState})
		}
	}
}

// 18.1: Send: those that are right are put at the end, in order; those that are not are left out, and take no room.
func TestSend(t *testing.T) {
	some := many(5)
	for _, there := range [][]api.Packet{nil, some} {
		n := of(there...)
		holds(t, "none", send(t, "none", n), told{N: n})
		holds(t, "wrong ones", send(t, "wrong ones", n, wrong()...), told{N: n})
		for _, p := range right() {
			holds(t, "one", send(t, "one", n, p), told{N: of(append(there[:len(there):len(there)], p)...), Put: 1})
		}
		holds(t, "many", send(t, "many", n, right()...), told{N: of(slices.Concat(there, right())...), Put: len(right())})
		for _, p := range wrong() {
			mixed := []api.Packet{p, some[1], p, p, some[0], p}
			holds(t, "mixed", send(t, "mixed", n, mixed...), told{N: of(slices.Concat(there, []api.Packet{some[1], some[0]})...), Put: 2})
		}
		holds(t, "the same again", send(t, "the same again", n, some[2], some[2]), told{N: of(slices.Concat(there, []api.Packet{some[2], some[2]})...), Put: 2})
	}
}

// 18.1: Send, while there is room: of more than that the first ones, and a wrong one takes none.
func TestSendFull(t *testing.T) {
	more := many(5)
	for room := range 7 {
		n := of(many(4096 - room)...)
		put := min(room, 5)
		holds(t, "some", send(t, "some", n, more...), told{N: of(append(n.Packets, more[:put]...)...), Put: put})
		mixed := slices.Concat(wrong(), more[:2], wrong(), more[2:], wrong())
		holds(t, "mixed", send(t, "mixed", n, mixed...), told{N: of(append(n.Packets, more[:put]...)...), Put: put})
	}
	holds(t, "all at once", send(t, "all at once", api.Net{}, many(4096)...), told{N: of(many(4096)...), Put: 4096})
	holds(t, "far more", send(t, "far more", api.Net{}, many(9000)...), told{N: of(many(4096)...), Put: 4096})
	holds(t, "many wrong ones", send(t, "many wrong ones", of(many(4095)...), append(slices.Repeat(wrong(), 400), more[0])...), told{N: of(append(many(4095), more[0])...), Put: 1})
}

// 18.1: Give: the i-th, from 0 on, and the net without it; ErrRange, if there is none.
func TestGive(t *testing.T) {
	for _, many := range [][]api.Packet{nil, many(1), many(2), many(5), right(), many(4096)} {
		n := of(many...)
		last := len(many)
		for _, i := range []int{-1, -2, -1 << 63, last, last + 1, 1 << 32, 1<<63 - 1} {
			holds(t, "none", give(t, "none", n, i), told{Why: api.ErrRange})
			holds(t, "none", twice(t, "none", n, i), told{Why: api.ErrRange})
		}
		for _, i := range []int{0, 1, 2, 3, 4, last / 2, last - 2, last - 1} {
			if i < 0 || i >= last {
				continue
			}
			holds(t, "given", give(t, "given", n, i), told{N: of(slices.Delete(slices.Clone(many), i, i+1)...), P: many[i]})
			want := told{N: of(append(slices.Clone(many), many[i])...)}
			if last == 4096 {
				want = told{Why: api.ErrFull}
			}
			holds(t, "doubled", twice(t, "doubled", n, i), want)
		}
	}
	full := of(many(4096)...)
	one := give(t, "full", full, 4095).N
	holds(t, "full but for one", twice(t, "full but for one", one, 4094), told{N: of(append(many(4095), many(4095)[4094])...)})
}

// 18.1: Take: all packets, in order, and a net of none.
func TestTake(t *testing.T) {
	for _, many := range [][]api.Packet{nil, many(1), many(5), right(), many(4096)} {
		holds(t, "taken", take(t, "taken", of(many...)), told{L: many})
	}
}

// The chapter's example.
func TestExample(t *testing.T) {
	a, b := packet(1, 2, "a"), packet(2, 1, "b")
	n := send(t, "example", api.Net{}, a, b).N
	n = twice(t, "example", n, 0).N
	got := give(t, "example", n, 1)
	holds(t, "example", got, told{N: of(a, a), P: b})
}

// 18.3 and 18.4: whatever is done, what was sent, or doubled, and not given is there, as it was, and as often; nothing else is; and all of it stands in that order.
func TestLongRows(t *testing.T) {
	d := rand.New(rand.NewSource(18))
	for row := range 60 {
		n, want := api.Net{}, []api.Packet{}
		if row%3 == 0 {
			n = send(t, "filled", n, many(4090)...).N
			want = many(4090)
		}
		for range 120 {
			i := d.Intn(len(want)+3) - 1
			inside := i >= 0 && i < len(want)
			switch d.Intn(7) {
			case 0, 1, 2:
				l := []api.Packet{packet(d.Intn(9), d.Intn(9), strconv.Itoa(d.Intn(4))), packet(d.Intn(9), d.Intn(9), "x")}
				got := send(t, "sent", n, l...)
				for _, p := range l {
					if p.From >= 1 && p.From <= 7 && p.To >= 1 && p.To <= 7 && p.From != p.To && len(want) < 4096 {
						want = append(want, p)
					}
				}
				if got.Put != len(want)-len(n.Packets) {
					t.Fatalf("sent: %s", brief(got))
				}
				n = got.N
			case 3, 4:
				if got := give(t, "given", n, i); inside {
					if got.P != want[i] {
						t.Fatalf("given: %s", brief(got))
					}
					n, want = got.N, slices.Delete(want, i, i+1)
				}
			case 5:
				if got := twice(t, "doubled", n, i); inside && len(want) < 4096 {
					n, want = got.N, append(want, want[i])
				}
			default:
				if d.Intn(9) == 0 {
					got := take(t, "taken", n)
					if !slices.Equal(got.L, want) {
						t.Fatalf("taken: %s", brief(got))
					}
					n, want = got.N, nil
				}
			}
			if !slices.Equal(n.Packets, want) {
				t.Fatalf("row %d: %d packets, not %d, or others", row, len(n.Packets), len(want))
			}
		}
	}
}
