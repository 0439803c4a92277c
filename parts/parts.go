// Package parts makes and takes parts of bytes, one behind the other, for the layers whose things have bytes.
package parts

import (
	"strings"

	"gaffer/api"
	"gaffer/pack"
)

// Taker has the bytes that are left to take from. Behind the first part that is none all others are zero.
type Taker struct {
	rest  string
	wrong bool
}

// Of takes from these bytes.
func Of(s string) Taker {
	return Taker{rest: s}
}

// Framed takes from the payload of these bytes, which must be one frame, and nothing else.
func Framed(s string) Taker {
	payload, rest, why := pack.TakeFrame(s)
	if why != api.OK || rest != "" {
		return Taker{wrong: true}
	}
	return Of(payload)
}

func (t *Taker) Number() uint64 {
	n, rest, why := pack.TakeNumber(t.rest)
	t.goOn(rest, why)
	return n
}

// Upto takes a number that may be at most so much: held against that ahead of the conversion, which may wrap round.
func (t *Taker) Upto(most int) int {
	n := t.Number()
	if n > uint64(most) {
		t.goOn("", api.ErrForm)
		return 0
	}
	return int(n)
}

func (t *Taker) Text() string {
	s, rest, why := pack.TakeText(t.rest)
	t.goOn(rest, why)
	return s
}

// Members takes numbers of replicas, right ones or not, as Members makes them.
func (t *Taker) Members() []int {
	var members []int
	for range t.Upto(api.MaxReplicas) {
		members = append(members, t.Upto(api.MaxReplicas))
	}
	return members
}

// Done tells whether all was there, and nothing is left.
func (t *Taker) Done() bool {
	return !t.wrong && t.rest == ""
}

// goOn is given no bytes beside an error, so that whatever is taken behind it is none, too.
func (t *Taker) goOn(rest string, why api.Errno) {
	t.rest, t.wrong = rest, why != api.OK
}

// Members are the bytes of numbers of replicas: how many, and each.
func Members(members []int) string {
	var b strings.Builder
	b.WriteString(pack.Number(uint64(len(members))))
	for _, m := range members {
		b.WriteString(pack.Number(uint64(m)))
	}
	return b.String()
}
