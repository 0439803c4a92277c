package order_test

import (
	"math/rand"
	"strings"
	"testing"

	"gaffer/api"
	"gaffer/order"
	"gaffer/ordertest"
)

// 9.1 and 9.3: what is told, there and back.
func TestTold(t *testing.T) {
	for _, told := range ordertest.Tolds() {
		s, why := order.EncodeTold(told)
		if s != ordertest.ToldBytes(told) || why != api.OK {
			t.Errorf("%v: %x, error %d", told, s, why)
		}
		if got, why := order.DecodeTold(s); got != told || why != api.OK {
			t.Errorf("%v: %v, error %d", told, got, why)
		}
	}
	for s, told := range map[string]api.Told{"\x00\x00": {}, "\x01\x03\x01\x01n": {Why: 3, Text: "n"}, "\x01\xff\x00": {Why: 255}, "\x00\x01\x02\x00\xff": {Text: "\x00\xff"}} {
		if b, why := order.EncodeTold(told); b != s || why != api.OK {
			t.Errorf("%v: %x, not %x; error %d", told, b, s, why)
		}
		if got, why := order.DecodeTold(s); got != told || why != api.OK {
			t.Errorf("%x: %v, error %d", s, got, why)
		}
	}
}

func noTold(t *testing.T, what, s string) {
	t.Helper()
	if told, why := order.DecodeTold(s); told != (api.Told{}) || why != api.ErrForm {
		t.Errorf("%s, %.60x: %.60v, error %d", what, s, told, why)
	}
}

// 9.1: what is told, but is not right: a Why below 0, or of more than a byte, a Text of more than MaxName bytes.
func TestToldWrong(t *testing.T) {
	for _, told := range ordertest.WrongTolds() {
		if s, why := order.EncodeTold(told); s != "" || why != api.ErrForm {
			t.Errorf("%.60v: %.60x, error %d", told, s, why)
		}
		noTold(t, "not right", ordertest.ToldBytes(told))
	}
	noTold(t, "a Why of 256", "\x02\x01\x00\x00")
	noTold(t, "a Text that is too long", "\x00\x01\x21"+strings.Repeat("n", 33))
}

// 9.1: bytes that are cut short, have some behind them, or spell a number in another way.
func TestToldBroken(t *testing.T) {
	for _, told := range ordertest.Tolds() {
		var b ordertest.Bytes
		b.Told(told)
		for _, s := range ordertest.Broken(b.String()) {
			noTold(t, "broken", s)
		}
		for _, s := range b.Otherwise() {
			noTold(t, "spelt otherwise", s)
		}
	}
}

// 9.1, 9.3 and P1: any bytes are of what they are read as, and of nothing else.
func TestToldAny(t *testing.T) {
	read := 0
	look := func(s string) {
		told, why := order.DecodeTold(s)
		again, no := order.EncodeTold(told)
		switch {
		case why == api.OK && (again != s || no != api.OK):
			t.Errorf("%x is %v, which is %x, error %d", s, told, again, no)
		case why == api.OK:
			read++
		case why != api.ErrForm || told != (api.Told{}):
			t.Errorf("%x: %v, error %d", s, told, why)
		}
	}
	for _, told := range ordertest.Tolds() {
		var b ordertest.Bytes
		b.Told(told)
		for _, s := range append(b.Others(), ordertest.Turned(b.String())...) {
			if got, why := order.DecodeTold(s); why == api.OK && got == told {
				t.Errorf("%x and %x are one: %v", s, b.String(), told)
			}
			look(s)
		}
	}
	draw := rand.New(rand.NewSource(91))
	for range 20000 {
		b := make([]byte, draw.Intn(8))
		for i := range b {
			b[i] = byte(draw.Intn(4))
		}
		look(string(b))
	}
	if read < 1000 {
		t.Errorf("only %d of them were told", read)
	}
}
