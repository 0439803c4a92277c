package parts_test

import (
	"math"
	"slices"
	"testing"

	"gaffer/api"
	"gaffer/pack"
	"gaffer/parts"
)

func frame(t *testing.T, payload string) string {
	t.Helper()
	f, why := pack.Frame(payload)
	if why != api.OK {
		t.Fatal(why)
	}
	return f
}

func TestTake(t *testing.T) {
	s := pack.Number(math.MaxUint64) + pack.Number(300) + pack.Text("two") + parts.Members([]int{1, 5, 7}) + pack.Number(0) + pack.Text("") + parts.Members(nil)
	for i, k := range []parts.Taker{parts.Of(s), parts.Framed(frame(t, s))} {
		if n := k.Number(); n != math.MaxUint64 {
			t.Errorf("%d: the number %d", i, n)
		}
		if n := k.Upto(300); n != 300 {
			t.Errorf("%d: the number %d", i, n)
		}
		if s := k.Text(); s != "two" {
			t.Errorf("%d: the text %q", i, s)
		}
		if l := k.Members(); !slices.Equal(l, []int{1, 5, 7}) || k.Done() {
			t.Errorf("%d: the members %v", i, l)
		}
		if k.Number() != 0 || k.Text() != "" || k.Members() != nil || !k.Done() {
			t.Errorf("%d: not done", i)
		}
		if k.Number() != 0 || k.Done() {
			t.Errorf("%d: something is behind the end", i)
		}
	}
}

// Behind what is none everything is zero, even if there would be more.
func TestTakeWrong(t *testing.T) {
	good := pack.Number(5)
	for what, c := range map[string]struct {
		from parts.Taker
		take func(k *parts.Taker)
	}{
		"nothing":              {parts.Of(""), func(k *parts.Taker) { k.Number() }},
		"no number":            {parts.Of("\x09" + good), func(k *parts.Taker) { k.Number() }},
		"a number cut short":   {parts.Of("\x02\x01"), func(k *parts.Taker) { k.Number() }},
		"a number too great":   {parts.Of(pack.Number(8) + good), func(k *parts.Taker) { k.Upto(7) }},
		"one that wraps round": {parts.Of(pack.Number(math.MaxUint64) + good), func(k *parts.Taker) { k.Upto(math.MaxInt) }},
		"a text cut short":     {parts.Of("\x01\x02a"), func(k *parts.Taker) { k.Text() }},
		"a text too long":      {parts.Of("\x03\x01\x00\x01" + good), func(k *parts.Taker) { k.Text() }},
		"too many members":     {parts.Of(parts.Members([]int{1, 2, 3, 4, 5, 6, 7, 7}) + good), func(k *parts.Taker) { k.Members() }},
		"a member too great":   {parts.Of(parts.Members([]int{1, 8}) + good), func(k *parts.Taker) { k.Members() }},
		"members cut short":    {parts.Of("\x01\x02\x01\x01"), func(k *parts.Taker) { k.Members() }},
		"no frame":             {parts.Framed(good), func(k *parts.Taker) {}},
		"a frame, and more":    {parts.Framed(frame(t, good) + "\x00"), func(k *parts.Taker) {}},
		"two frames":           {parts.Framed(frame(t, good) + frame(t, good)), func(k *parts.Taker) {}},
		"a frame cut short":    {parts.Framed(frame(t, good)[:7]), func(k *parts.Taker) {}},
		"something left":       {parts.Of(good + good + good + good + good + good), func(k *parts.Taker) { k.Number() }},
	} {
		k := c.from
		c.take(&k)
		if k.Done() {
			t.Errorf("%s: done", what)
		}
		if what == "something left" {
			continue
		}
		if n, m, s, l := k.Number(), k.Upto(9), k.Text(), k.Members(); n != 0 || m != 0 || s != "" || l != nil || k.Done() {
			t.Errorf("%s: taken is %d, %d, %q, %v", what, n, m, s, l)
		}
	}
}

// Of more than may be nothing is taken.
func TestTimes(t *testing.T) {
	for count, want := range map[uint64]int{0: 0, 1: 1, 4: 4, 5: 0, math.MaxUint64: 0} {
		taken, sum := 0, uint64(0)
		k := parts.Of(pack.Number(count) + pack.Number(7) + pack.Number(8) + pack.Number(9) + pack.Number(10))
		k.Times(4, func() {
			taken++
			sum = 10*sum + k.Number()
		})
		if taken != want || k.Done() != (want == 4) || want == 4 && sum != 7900 {
			t.Errorf("%d: taken are %d, %d", count, taken, sum)
		}
	}
}

func TestMake(t *testing.T) {
	var m parts.Maker
	if m.Bytes() != "" {
		t.Errorf("nothing: %x", m.Bytes())
	}
	m.Number(300)
	m.Text("two")
	m.Times(3, func(at int) { m.Number(uint64(at)) })
	m.Times(0, func(at int) { t.Error("made of nothing:", at) })
	if m.Bytes() != "\x02\x01\x2c\x01\x03two\x01\x03\x00\x01\x01\x01\x02\x00" {
		t.Errorf("made is %x", m.Bytes())
	}
}

func TestMembers(t *testing.T) {
	for want, l := range map[string][]int{"\x00": nil, "\x01\x01\x01\x07": {7}, "\x01\x03\x01\x01\x00\x02\x01\x00": {1, 0, 256}} {
		if b := parts.Members(l); b != want {
			t.Errorf("%v: %x", l, b)
		}
	}
}
