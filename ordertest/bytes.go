package ordertest

import (
	"gaffer/api"
	"gaffer/pack"
)

// Bytes are numbers and texts, one behind the other, of anything, right or not, as the chapters say it. A text is a number, and its bytes.
type Bytes struct{ pieces []piece }

type piece struct {
	bytes    string
	n        uint64
	isNumber bool
}

func (b *Bytes) Number(n uint64) {
	b.pieces = append(b.pieces, piece{pack.Number(n), n, true})
}

func (b *Bytes) Text(s string) {
	b.Number(uint64(len(s)))
	b.pieces = append(b.pieces, piece{bytes: s})
}

func (b *Bytes) Pairs(l []api.Pair) {
	b.Number(uint64(len(l)))
	for _, p := range l {
		b.Text(p.Key)
		b.Text(p.Value)
	}
}

func (b *Bytes) Node(n api.Node) {
	b.Text(n.Name)
	for _, amount := range n.Has {
		b.Number(uint64(amount))
	}
	b.Pairs(n.Labels)
	b.Pairs(n.Taints)
}

func (b *Bytes) Task(t api.Task) {
	b.Text(t.Name)
	for _, amount := range t.Needs {
		b.Number(uint64(amount))
	}
	b.Pairs(t.Wants)
	b.Pairs(t.Bears)
	b.Text(t.Group)
	b.Text(t.Apart)
	b.Number(uint64(t.Rank + 1000))
}

func (b *Bytes) Told(t api.Told) {
	b.Number(uint64(t.Why))
	b.Text(t.Text)
}

// Command leaves out what its kind has not; of what is no kind there is a Name.
func (b *Bytes) Command(c api.Command) {
	b.Number(c.Client)
	b.Number(c.Seq)
	b.Number(uint64(c.Order.Kind))
	switch c.Order.Kind {
	case api.OrderNode:
		b.Node(c.Order.Node)
		return
	case api.OrderTask:
		b.Task(c.Order.Task)
		return
	}
	b.Text(c.Order.Name)
	if c.Order.Kind == api.OrderBind {
		b.Text(c.Order.On)
		b.Number(c.Order.Fence)
	}
}

func (b *Bytes) String() string {
	var s string
	for _, p := range b.pieces {
		s += p.bytes
	}
	return s
}

// Otherwise are the bytes with one number spelt in another way: with more bytes than it needs.
func (b *Bytes) Otherwise() []string {
	return b.with(func(n uint64) []string {
		var list []string
		digits := pack.Number(n)[1:]
		for len(digits) < 9 {
			digits = "\x00" + digits
			list = append(list, string([]byte{byte(len(digits))})+digits)
		}
		return list
	})
}

// Others are the bytes with another number in the place of one; among them those that are the same, if they are cut to fewer bits.
func (b *Bytes) Others() []string {
	return b.with(func(n uint64) []string {
		var list []string
		for _, more := range []uint64{1, 2, 3, 4, 8, 255, 256, 1000, 1 << 16, 1 << 31, 1 << 32, 1 << 62, 1 << 63} {
			list = append(list, pack.Number(n+more), pack.Number(n-more))
		}
		return list
	})
}

// with are the bytes with each of those that are made of it in the place of a number, of each number.
func (b *Bytes) with(made func(n uint64) []string) []string {
	var list []string
	ahead, whole := "", b.String()
	for _, p := range b.pieces {
		behind := whole[len(ahead)+len(p.bytes):]
		if p.isNumber {
			for _, s := range made(p.n) {
				list = append(list, ahead+s+behind)
			}
		}
		ahead += p.bytes
	}
	return list
}

// CommandBytes, and ToldBytes, are of one.
func CommandBytes(c api.Command) string {
	var b Bytes
	b.Command(c)
	return b.String()
}

func ToldBytes(t api.Told) string {
	var b Bytes
	b.Told(t)
	return b.String()
}

// Broken are these bytes cut short, at each place, and with some behind them.
func Broken(s string) []string {
	list := []string{s + "\x00", s + "\x01", s + "\xff", s + "\x01\x00", s + "\x00\x00"}
	if s != "" {
		list = append(list, s+s)
	}
	for size := range len(s) {
		list = append(list, s[:size])
	}
	return list
}

// Turned are these bytes with one bit turned, each in its turn.
func Turned(s string) []string {
	var list []string
	for bit := range 8 * len(s) {
		b := []byte(s)
		b[bit/8] ^= 1 << (bit % 8)
		list = append(list, string(b))
	}
	return list
}
