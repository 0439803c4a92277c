// Package parts makes and takes parts of bytes, one behind the other, for the layers whose things have bytes.
package parts

import (
	"strings"

	"gaffer/api"
	"gaffer/pack"
)

// Taker has the bytes that are left to take from. Behind the first part that is none all others are zero.
type Taker struct {
	rest  string
	wrong bool
}

// Of takes from these bytes.
func Of(s string) Taker {
	return Taker{rest: s}
}

// Framed takes from the payload of these bytes, which must be one frame, and nothing else.
func Framed(s string) Taker {
	payload, rest, why := pack.TakeFrame(s)
	if why != api.OK || rest != "" {
		return Taker{wrong: true}
	}
	return Of(payload)
}

func (t *Taker) Number() uint64 {
	n, rest, why := pack.TakeNumber(t.rest)
	t.goOn(rest, why)
	return n
}

// Upto takes a number that may be at most so much, so that it may be converted, and does not wrap round.
func (t *Taker) Upto(most uint64) uint64 {
	n := t.Number()
	if n > most {
		t.goOn("", api.ErrForm)
		return 0
	}
	return n
}

func (t *Taker) Text() string {
	s, rest, why := pack.TakeText(t.rest)
	t.goOn(rest, why)
	return s
}

// Members takes numbers of replicas, right ones or not, as Members makes them.
func (t *Taker) Members() []int {
	var members []int
	t.Times(api.MaxReplicas, func() {
		members = append(members, int(t.Upto(api.MaxReplicas)))
	})
	return members
}

// Times takes how many there are, at most so many, and as often what stands behind that.
func (t *Taker) Times(most uint64, take func()) {
	for range t.Upto(most) {
		take()
	}
}

// Done tells whether all was there, and nothing is left.
func (t *Taker) Done() bool {
	return !t.wrong && t.rest == ""
}

// goOn is given no bytes beside an error, so that whatever is taken behind it is none, too.
func (t *Taker) goOn(rest string, why api.Errno) {
	t.rest, t.wrong = rest, why != api.OK
}

// Maker has the bytes of the parts that were made so far.
type Maker struct{ made strings.Builder }

func (m *Maker) Number(n uint64) { m.made.WriteString(pack.Number(n)) }

func (m *Maker) Text(s string) { m.made.WriteString(pack.Text(s)) }

// Times makes how many there are, and each one, of which it tells the place.
func (m *Maker) Times(many int, one func(at int)) {
	m.Number(uint64(many))
	for at := range many {
		one(at)
	}
}

func (m *Maker) Bytes() string { return m.made.String() }

// Members are the bytes of numbers of replicas: how many, and each.
func Members(members []int) string {
	var m Maker
	m.Times(len(members), func(at int) { m.Number(uint64(members[at])) })
	return m.Bytes()
}
