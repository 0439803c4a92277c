package wal_test

import (
	"math/rand"
	"strings"
	"testing"

	"gaffer/api"
	"gaffer/pack"
	"gaffer/wal"
)

// 3.1: Check.
func TestCheck(t *testing.T) {
	for i, e := range rights() {
		if why := wal.Check(e); why != api.OK {
			t.Errorf("right, %d: error %d", i, why)
		}
	}
	for i, e := range wrongs() {
		if why := wal.Check(e); why != api.ErrForm {
			t.Errorf("wrong, %d: error %d", i, why)
		}
	}
}

// 3.1: Encode; of what is not right Check's error, and no bytes.
func TestEncode(t *testing.T) {
	for i, one := range []struct {
		e    api.Entry
		want string
	}{
		{api.Entry{Index: 1, Kind: api.EntryLead}, "\x01\x01\x00\x01\x01\x00\x00"},
		{api.Entry{Index: 258, Term: 3, Kind: api.EntryOrder, Data: "xy"}, "\x02\x01\x02\x01\x03\x01\x02\x01\x02xy\x00"},
		{api.Entry{Index: 1, Term: 65536, Kind: api.EntryMembers, Members: []int{2, 3, 7}}, "\x01\x01\x03\x01\x00\x00\x01\x03\x00\x01\x03\x01\x02\x01\x03\x01\x07"},
		{api.Entry{Index: most, Term: 1 << 62, Kind: api.EntryOrder}, "\x08\xff\xff\xff\xff\xff\xff\xff\xff\x08\x40\x00\x00\x00\x00\x00\x00\x00\x01\x02\x00\x00"},
	} {
		if s, why := wal.Encode(one.e); s != one.want || why != api.OK {
			t.Errorf("%d: %x, not %x; error %d", i, s, one.want, why)
		}
	}
	for i, e := range rights() {
		if s, why := wal.Encode(e); s != bytesOf(e) || why != api.OK {
			t.Errorf("right, %d: %d bytes, error %d", i, len(s), why)
		}
	}
	for i, e := range wrongs() {
		if s, why := wal.Encode(e); s != "" || why != api.ErrForm {
			t.Errorf("wrong, %d: %d bytes, error %d", i, len(s), why)
		}
	}
}

// 3.6: of an entry.
func TestThereAndBack(t *testing.T) {
	for i, e := range append(rights(), some(1, 40)...) {
		s, _ := wal.Encode(e)
		got, why := wal.Decode(s)
		if !equal(got, e) || why != api.OK {
			t.Errorf("%d: %v, error %d", i, got, why)
		}
	}
}

func noEntry(t *testing.T, what, s string) {
	t.Helper()
	if e, why := wal.Decode(s); !equal(e, api.Entry{}) || why != api.ErrForm {
		t.Errorf("%s: %v, error %d", what, e, why)
	}
}

// 3.1: Decode of bytes that are cut short, or have some behind them.
func TestDecodeCut(t *testing.T) {
	for _, e := range []api.Entry{rights()[0], order(258, "some data"), members(most, 1, 4, 7)} {
		s := bytesOf(e)
		for size := range len(s) {
			noEntry(t, "cut short", s[:size])
		}
		for _, more := range []string{"\x00", "\x01", "x", s} {
			noEntry(t, "with some behind", s+more)
		}
	}
}

// 3.1: Decode of bytes that are well made, but of no right entry; among them numbers that are right ones when they are cut to fewer bits.
func TestDecodeWrong(t *testing.T) {
	for _, kind := range []uint64{0, 4, 5, 255, 256, 257, 258, 259, 1<<32 + 1, 1<<63 + 2, most} {
		noEntry(t, "Kind", raw(1, 1, kind, ""))
		noEntry(t, "Kind", raw(1, 1, kind, "x"))
		noEntry(t, "Kind", raw(1, 1, kind, "", 1))
	}
	for _, e := range wrongs() {
		if len(e.Data) <= api.MaxData {
			noEntry(t, "no right entry's", bytesOf(e))
		}
	}
	for _, m := range []uint64{0, 8, 255, 256, 257, 1<<32 + 1, 1 << 63, 1<<63 + 1, most} {
		noEntry(t, "a member", raw(1, 1, 3, "", m))
		noEntry(t, "members", raw(1, 1, 3, "", 1, m))
	}
	noEntry(t, "members that fall", raw(1, 1, 3, "", 3, 2))
	noEntry(t, "no members", raw(1, 1, 3, ""))
	head := pack.Number(1) + pack.Number(1) + pack.Number(3) + pack.Text("")
	for _, count := range []uint64{0, 2, 8, 256, 1 << 31, 1 << 32, 1<<32 + 1, 1 << 63, most} {
		noEntry(t, "so many members", head+pack.Number(count)+pack.Number(1))
	}
	noEntry(t, "too long a text", pack.Number(1)+pack.Number(1)+pack.Number(2)+pack.Number(api.MaxData+1)+strings.Repeat("x", api.MaxData+1)+pack.Number(0))
	noEntry(t, "nothing", "")
	noEntry(t, "a number of two bytes, where one is enough", "\x02\x00\x01\x00\x01\x01\x00\x00")
	noEntry(t, "a number of no bytes that has one", "\x01\x01\x01\x00\x01\x01\x00\x00")
	noEntry(t, "a number of nine bytes", "\x09\x01\x01\x01\x01\x01\x01\x01\x01\x01\x00\x01\x01\x00\x00")
}

// 3.6 of any bytes: what is decoded is right, and has just these bytes.
func TestDecodeAny(t *testing.T) {
	draw := rand.New(rand.NewSource(3))
	read := 0
	look := func(s string) {
		e, why := wal.Decode(s)
		back, no := wal.Encode(e)
		switch {
		case why == api.OK && (back != s || no != api.OK || wal.Check(e) != api.OK):
			t.Errorf("%x is %v, which is %x", s, e, back)
		case why == api.OK:
			read++
		case why != api.ErrForm || !equal(e, api.Entry{}):
			t.Errorf("%x: %v, error %d", s, e, why)
		}
	}
	for _, e := range append(some(1, 6), members(most, 1, 4, 7)) {
		s := bytesOf(e)
		for i := range len(s) {
			for b := range 256 {
				look(s[:i] + string([]byte{byte(b)}) + s[i+1:])
			}
		}
	}
	for range 20000 {
		b := []byte(noise(draw, draw.Intn(24)))
		for i := range b {
			b[i] %= 5 // so that some are entries
		}
		look(string(b))
		look(noise(draw, draw.Intn(24)))
	}
	if read < 1000 {
		t.Errorf("only %d of them were entries", read)
	}
}
