package ledger_test

import (
	"math/rand"
	"slices"
	"strings"
	"testing"

	"gaffer/api"
	"gaffer/booktest"
	"gaffer/ledger"
	"gaffer/ordertest"
	"gaffer/pack"
)

// known is byte by byte what known's bytes are.
const known = "\x02\x01\x02" +
	"\x01\x02" + "\x01\x01m\x01\x05\x00\x02\x01\x00\x01\x01\x01\x01a\x01\x01b\x00" + "\x01\x01n\x00\x00\x00\x00\x00" +
	"\x01\x01" + "\x01\x01t\x01\x01\x00\x00\x01\x01\x01\x01a\x01\x01b\x00\x00\x01\x02hi\x02\x03\xe1" +
	"\x01\x01" + "\x01\x01t\x01\x01m" +
	"\x01\x02" + "\x01\x03\x00\x00\x00" + "\x02\x01\x00\x01\x09\x01\x0d\x01\x02ab"

func ofKnown() api.Ledger {
	return api.Ledger{
		Book: api.Book{
			Nodes: []api.Node{{Name: "m", Has: [api.Kinds]int64{5, 0, 256}, Labels: booktest.Pairs("a", "b")}, {Name: "n"}},
			Tasks: []api.Task{{Name: "t", Needs: [api.Kinds]int64{1}, Wants: booktest.Pairs("a", "b"), Apart: "hi", Rank: -7}},
			Binds: []api.Bind{{Task: "t", Node: "m"}},
			Fence: 258,
		},
		Clients: []api.Client{{Id: 3}, {Id: 256, Seq: 9, Told: api.Told{Why: api.ErrFit, Text: "ab"}}},
	}
}

// 10.3: bytes that are known.
func TestKnown(t *testing.T) {
	for s, l := range map[string]api.Ledger{known: ofKnown(), "\x00\x00\x00\x00\x00": {}} {
		if b, why := ledger.Pack(l); b != s || why != api.OK {
			t.Errorf("Pack: %x, not %x; error %d", b, s, why)
		}
		if got, why := ledger.Unpack(s); !same(got, l) || why != api.OK {
			t.Errorf("Unpack: %s, error %d", brief(got), why)
		}
	}
}

// 10.3 and 10.6: there and back, of all that is right.
func TestThereAndBack(t *testing.T) {
	for what, l := range rights() {
		given, b := clone(l), bytesOf(l)
		s, why := ledger.Pack(given)
		if s != b.String() || why != api.OK {
			t.Errorf("%s: Pack: %d bytes, not %d; error %d", what, len(s), len(b.String()), why)
		}
		got, no := ledger.Unpack(s)
		if !same(got, l) || no != api.OK {
			t.Errorf("%s: Unpack: %s, error %d", what, brief(got), no)
		}
		if !same(given, l) {
			t.Errorf("%s: what was handed in is changed", what)
		}
	}
}

// The state goes into a snapshot (layer 5), however much there is.
func TestWidest(t *testing.T) {
	if s, why := ledger.Pack(widest()); why != api.OK || len(s) > api.MaxData-1024 {
		t.Errorf("%d bytes, error %d", len(s), why)
	}
}

func noLedger(t *testing.T, what, s string) {
	t.Helper()
	if l, why := ledger.Unpack(s); !same(l, api.Ledger{}) || why != api.ErrForm {
		t.Errorf("%s, %.60x: %s, error %d", what, s, brief(l), why)
	}
}

// 10.3: bytes that are cut short, have some behind them, or spell a number or a count in another way.
func TestUnpackBroken(t *testing.T) {
	for what, l := range map[string]api.Ledger{"nothing": {}, "some": some(), "known": ofKnown(), "full": full(), "clients": {Clients: full().Clients}} {
		b := bytesOf(l)
		for _, s := range ordertest.Broken(b.String()) {
			noLedger(t, what+", broken", s)
		}
		for _, s := range b.Otherwise() {
			noLedger(t, what+", spelt otherwise", s)
		}
	}
}

// 10.3: bytes that are well made, but of no right ledger.
func TestUnpackWrong(t *testing.T) {
	for what, l := range wrongs() {
		b := bytesOf(l)
		if len(l.Book.Binds) > 1000 || len(l.Clients) > 1000 {
			continue // is too many by far, and asked below
		}
		noLedger(t, what, b.String())
	}
	for _, count := range []uint64{1, 8, 9, 16, 17, 32, 33, 256, 1 << 16, 1 << 32, 1<<32 + 1, 1 << 63, most} {
		n := pack.Number(count)
		for at := range 4 {
			noLedger(t, "so many of nothing", strings.Repeat("\x00", 1+at)+n+strings.Repeat("\x00", 3-at))
			noLedger(t, "so many, and zeros", strings.Repeat("\x00", 1+at)+n+strings.Repeat("\x00", 1<<16))
		}
	}
	for _, id := range []string{"\x00", "\x01\x00", "\x02\x00\x01", "\x09\x01\x01\x01\x01\x01\x01\x01\x01\x01"} {
		noLedger(t, "an Id", "\x00\x00\x00\x00\x01\x01"+id+"\x00\x00\x00")
	}
	for _, why := range []string{"\x02\x01\x00", "\x02\x01\x01", "\x05\x01\x00\x00\x00\x00", "\x08\x80\x00\x00\x00\x00\x00\x00\x00", "\x08\x80\x00\x00\x00\x00\x00\x00\x01", "\x08\xff\xff\xff\xff\xff\xff\xff\xff"} {
		noLedger(t, "a Why", "\x00\x00\x00\x00\x01\x01\x01\x01\x00"+why+"\x00")
	}
	noLedger(t, "too long a Text", "\x00\x00\x00\x00\x01\x01\x01\x01\x00\x00\x01\x21"+strings.Repeat("n", 33))
	noLedger(t, "nothing", "")
	noLedger(t, "text", "?")
}

// 10.3, 10.6 and P1, of any bytes: with one bit turned, with another number somewhere, and drawn. What is unpacked is right, and has just these bytes.
func TestUnpackAny(t *testing.T) {
	read := 0
	look := func(s string) {
		l, why := ledger.Unpack(s)
		switch {
		case why == api.OK:
			read++
			if again, no := ledger.Pack(l); again != s || no != api.OK || ledger.Check(l) != api.OK {
				t.Errorf("%x is %s, which is %x, error %d", s, brief(l), again, no)
			}
		case why != api.ErrForm || !same(l, api.Ledger{}):
			t.Errorf("%.60x: %s, error %d", s, brief(l), why)
		}
	}
	for _, l := range []api.Ledger{some(), ofKnown(), {Clients: full().Clients}} {
		b := bytesOf(l)
		for _, s := range slices.Concat(b.Others(), ordertest.Turned(b.String())) {
			if got, why := ledger.Unpack(s); why == api.OK && same(got, l) {
				t.Errorf("%x and %x are one ledger: %s", s, b.String(), brief(l))
			}
			look(s)
		}
	}
	draw := rand.New(rand.NewSource(10))
	for range 50000 {
		b := make([]byte, draw.Intn(16))
		for i := range b {
			b[i] = "\x00\x00\x00\x00\x01\x01\x02a\xff"[draw.Intn(9)]
		}
		look(string(b))
	}
	if read < 500 {
		t.Errorf("only %d of them were ledgers", read)
	}
}
