package msg_test

import (
	"math/rand"
	"strings"
	"testing"

	"gaffer/api"
	"gaffer/msg"
	"gaffer/pack"
)

// 13.1: Check, and Encode, which has its error, ahead of all others: some of the wrong ones are too long, too.
func TestMessages(t *testing.T) {
	for _, m := range rights() {
		if why := msg.Check(m); why != api.OK {
			t.Errorf("%s: Check: error %d", brief(m), why)
		}
		if s, why := msg.Encode(m); s != packet(bytesOf(m).String()) || why != api.OK {
			t.Errorf("%s: Encode: %.200x, error %d", brief(m), s, why)
		}
	}
	list := overfull()
	if len(list) < 1000 {
		t.Errorf("only %d have what their kind has not", len(list))
	}
	for _, m := range wrongs() {
		list = append(list, m)
	}
	long := 0
	for _, m := range list {
		if why := msg.Check(m); why != api.ErrForm {
			t.Errorf("%s: Check: error %d", brief(m), why)
		}
		if s, why := msg.Encode(m); s != "" || why != api.ErrForm {
			t.Errorf("%s: Encode: %.200x, error %d", brief(m), s, why)
		}
		if len(bytesOf(m).String()) > api.MaxData {
			long++
		}
	}
	if long == 0 {
		t.Error("none of the wrong ones is too long")
	}
}

// 13.1: empty lists are no fields that a kind has not.
func TestEmptyLists(t *testing.T) {
	for _, m := range rights() {
		want, _ := msg.Encode(m)
		if len(m.Entries) == 0 {
			m.Entries = []api.Entry{}
		}
		if len(m.Snap.Members) == 0 {
			m.Snap.Members = []int{}
		}
		if s, why := msg.Encode(m); s != want || why != api.OK || msg.Check(m) != api.OK {
			t.Errorf("%s: %.200x, error %d", brief(m), s, why)
		}
	}
}

// 13.1: bytes that are known, one by one: the chapter's example, and one of each kind.
func TestKnown(t *testing.T) {
	entries := []api.Entry{order(259, 3, "xy"), members(260, 4, 2, 7), lead(261, 4)}
	for i, one := range []struct {
		m    api.Msg
		want string
	}{
		{api.Msg{Kind: api.MsgVoted, Term: 2, Ok: true}, "\x01\x02\x01\x02\x01\x01"},
		{api.Msg{Kind: api.MsgVoted, Term: 2}, "\x01\x02\x01\x02\x00"},
		{api.Msg{Kind: api.MsgAsk, Term: 2, Index: 3, LogTerm: 1}, "\x01\x01\x01\x02\x01\x03\x01\x01"},
		{api.Msg{Kind: api.MsgAsk, Term: 258}, "\x01\x01\x02\x01\x02\x00\x00"},
		{api.Msg{Kind: api.MsgAppend, Term: 4, Index: 258, LogTerm: 3, Commit: 9, Entries: entries}, "\x01\x03\x01\x04\x02\x01\x02\x01\x03\x01\x09\x01\x03" + "\x01\x0c\x02\x01\x03\x01\x03\x01\x02\x01\x02xy\x00" + "\x01\x0e\x02\x01\x04\x01\x04\x01\x03\x00\x01\x02\x01\x02\x01\x07" + "\x01\x09\x02\x01\x05\x01\x04\x01\x01\x00\x00"},
		{api.Msg{Kind: api.MsgAppend, Term: 4}, "\x01\x03\x01\x04\x00\x00\x00\x00"},
		{api.Msg{Kind: api.MsgAppended, Term: 2, Ok: true, Index: 4}, "\x01\x04\x01\x02\x01\x01\x01\x04"},
		{api.Msg{Kind: api.MsgAppended, Term: most, Index: 65536}, "\x01\x04\x08\xff\xff\xff\xff\xff\xff\xff\xff\x00\x03\x01\x00\x00"},
		{api.Msg{Kind: api.MsgInstall, Term: 2, Snap: api.Snap{Index: 5, Term: 1, Members: []int{1, 7}, Data: "ab"}}, "\x01\x05\x01\x02" + "\x01\x0e" + "\x01\x05\x01\x01\x01\x02\x01\x01\x01\x07\x01\x02ab"},
	} {
		if s, why := msg.Encode(one.m); s != packet(one.want) || why != api.OK {
			t.Errorf("%d: %x, not the frame of %x; error %d", i, s, one.want, why)
		}
		if m, why := msg.Decode(packet(one.want)); !same(m, one.m) || why != api.OK {
			t.Errorf("%d: %s, error %d", i, brief(m), why)
		}
	}
	whole := "\x00\x00\x00\x06\x7a\xfb\x01\x02\x01\x02\x01\x01"
	if s, why := msg.Encode(api.Msg{Kind: api.MsgVoted, Term: 2, Ok: true}); s != whole || why != api.OK {
		t.Errorf("a whole packet: %x, error %d", s, why)
	}
}

// 13.1: no right message has bytes that are too long for a frame: those that need the most have room. With more Data, or more entries, they are not right, which comes first: whether there is still room, just so, or none.
func TestRoom(t *testing.T) {
	for _, m := range widest() {
		s, why := msg.Encode(m)
		if got, no := msg.Decode(s); why != api.OK || no != api.OK || !same(got, m) {
			t.Errorf("%s: %d bytes, errors %d, %d", brief(m), len(s), why, no)
		}
	}
	for size, want := range map[int]int{64513: 64564, 65485: api.MaxData, 65486: api.MaxData + 1} {
		m := widest()[1]
		m.Snap.Data = strings.Repeat("z", size)
		tooLong(t, m, want)
	}
	for n, want := range map[int]int{9: 37147, 15: 61885, 16: 66008} {
		m := widest()[0]
		m.Index, m.Entries = most-uint64(n), bulky(n)
		tooLong(t, m, want)
	}
	for _, payload := range []string{strings.Repeat("\x00", api.MaxData), "\x01\x02\x01\x02\x01" + strings.Repeat("\x01", api.MaxData-5)} {
		noMessage(t, "a frame that is full", packet(payload))
	}
	noMessage(t, "one that says it is too long", "\x00\x01\x00\x01\x00\x00"+strings.Repeat("\x01", api.MaxData+1))
}

// tooLong is of a message that is not right, whose bytes would be so many.
func tooLong(t *testing.T, m api.Msg, size int) {
	t.Helper()
	payload := bytesOf(m).String()
	if s, why := msg.Encode(m); s != "" || why != api.ErrForm || len(payload) != size {
		t.Errorf("%s: %d bytes, error %d; it would have %d", brief(m), len(s), why, len(payload))
	}
	if size <= api.MaxData {
		noMessage(t, "too long", packet(payload))
	}
}

// 13.3: of each right message.
func TestThereAndBack(t *testing.T) {
	for _, m := range rights() {
		s, _ := msg.Encode(m)
		got, why := msg.Decode(s)
		if !same(got, m) || why != api.OK {
			t.Errorf("%s: %s, error %d", brief(m), brief(got), why)
		}
		if again, _ := msg.Encode(got); again != s {
			t.Errorf("%s: %.200x, not %.200x", brief(m), again, s)
		}
	}
}

func noMessage(t *testing.T, what, s string) {
	t.Helper()
	if m, why := msg.Decode(s); !same(m, api.Msg{}) || why != api.ErrForm {
		t.Errorf("%s, %.60x: %s, error %d", what, s, brief(m), why)
	}
}

// 13.1: Decode of a packet that is cut short, or has bytes behind it.
func TestDecodeBroken(t *testing.T) {
	for _, m := range rights() {
		s, _ := msg.Encode(m)
		for _, b := range broken(s) {
			noMessage(t, "broken", b)
		}
		noMessage(t, "bare bytes", bytesOf(m).String())
		noMessage(t, "a byte ahead", "\x00"+s)
	}
}

// 13.4: a packet of which one bit is turned is none: each bit of the short ones; of the long ones those of the frame's head, and some behind.
func TestTurned(t *testing.T) {
	for _, m := range rights() {
		s, _ := msg.Encode(m)
		step := 1
		if len(s) > 500 {
			step = 1 + len(s)/5
		}
		for bit := range 8 * len(s) {
			if bit < 80 || bit%step == 0 || bit == 8*len(s)-1 {
				b := []byte(s)
				b[bit/8] ^= 1 << (bit % 8)
				noMessage(t, "turned", string(b))
			}
		}
	}
}

// 13.1: a whole frame of bytes that are cut short, have some behind them, or spell a number in another way.
func TestDecodeBytes(t *testing.T) {
	for _, m := range ofEachKind() {
		b := bytesOf(m)
		for _, s := range broken(b.String()) {
			noMessage(t, "broken", packet(s))
		}
		for _, s := range b.Otherwise() {
			noMessage(t, "spelt otherwise", packet(s))
		}
	}
	noMessage(t, "nothing", "")
	noMessage(t, "text", "?")
	noMessage(t, "a frame of nothing", packet(""))
}

// 13.1: Decode of bytes that are well made, but of no right message; among them numbers that are right ones when they are cut to fewer bits.
func TestDecodeWrong(t *testing.T) {
	for what, m := range wrongs() {
		if payload := bytesOf(m).String(); len(payload) <= api.MaxData {
			noMessage(t, what, packet(payload))
		}
	}
	ask, voted, appended := "\x01\x03\x01\x04", "\x01\x01", "\x01\x01\x01\x04"
	for _, kind := range []uint64{0, 6, 7, 255, 256, 257, 258, 259, 260, 261, 262, 1<<32 + 1, 1<<32 + 2, 1 << 63, 1<<63 + 2, most} {
		for _, rest := range []string{"", "\x00", "\x00\x00", ask, voted, appended, "\x00\x00\x00\x00"} {
			noMessage(t, "Kind", packet(pack.Number(kind)+"\x01\x02"+rest))
		}
	}
	for _, ok := range []uint64{2, 3, 255, 256, 257, 1 << 32, 1<<32 + 1, 1 << 63, most} {
		noMessage(t, "Ok of a voted", packet("\x01\x02\x01\x02"+pack.Number(ok)))
		noMessage(t, "Ok of an appended", packet("\x01\x04\x01\x02"+pack.Number(ok)+"\x01\x04"))
	}
	head, entry := "\x01\x03\x01\x04\x01\x08\x01\x03\x01\x05", pack.Text(entryBytes(lead(9, 1)))
	for _, count := range []uint64{0, 2, 8, 9, 255, 256, 257, 1 << 32, 1<<32 + 1, 1 << 63, 1<<63 + 1, most} {
		noMessage(t, "so many entries", packet(head+pack.Number(count)+entry))
	}
	for _, text := range append(broken(entryBytes(lead(9, 1))), "entry", strings.Repeat("\x00", 5000)) {
		noMessage(t, "an entry", packet(head+"\x01\x01"+pack.Text(text)))
		noMessage(t, "an entry behind another one", packet(head+"\x01\x02"+entry+pack.Text(text)))
	}
	for _, text := range append(broken(snapBytes(someSnap())), "snapshot", strings.Repeat("\x00", 5000), "\x00\x00\x00\x00", "\x00\x01\x01\x01\x01\x01\x00") {
		noMessage(t, "a snapshot", packet("\x01\x05\x01\x02"+pack.Text(text)))
	}
}

// reads holds what becomes of any bytes against 13.1 and 13.3: a right message, of which these are the bytes, or none. It tells whether it was one.
func reads(t *testing.T, payload string) bool {
	t.Helper()
	s := packet(payload)
	m, why := msg.Decode(s)
	switch {
	case why == api.OK:
		if again, no := msg.Encode(m); again != s || no != api.OK || msg.Check(m) != api.OK || bytesOf(m).String() != payload {
			t.Errorf("%x is %s, which is %x, error %d", s, brief(m), again, no)
		}
		return true
	case why != api.ErrForm || !same(m, api.Msg{}):
		t.Errorf("%.60x: %s, error %d", s, brief(m), why)
	}
	return false
}

// 13.1, 13.3 and P1, of any bytes: with one bit turned in what is framed, with another number somewhere, and drawn.
func TestDecodeAny(t *testing.T) {
	read := 0
	look := func(payload string) {
		if reads(t, payload) {
			read++
		}
	}
	for _, m := range rights() {
		b := bytesOf(m)
		if len(b.String()) > 500 {
			continue
		}
		for _, s := range append(b.Others(), turned(b.String())...) {
			if got, why := msg.Decode(packet(s)); why == api.OK && same(got, m) {
				t.Errorf("%x and %x are one message: %s", s, b.String(), brief(m))
			}
			look(s)
		}
	}
	draw := rand.New(rand.NewSource(13))
	for range 50000 {
		b := make([]byte, draw.Intn(20))
		for i := range b {
			b[i] = "\x00\x00\x00\x01\x01\x01\x01\x02\x03\x04\x05\x07"[draw.Intn(12)]
		}
		look(string(b))
		if _, why := msg.Decode(string(b)); why != api.ErrForm { // no frame
			t.Errorf("%x: error %d", b, why)
		}
	}
	if read < 1000 {
		t.Errorf("only %d of them were messages", read)
	}
}
