package pack_test

import (
	"math/rand"
	"strings"
	"testing"

	"gaffer/api"
	"gaffer/pack"
)

// numbers has the edges of each size that a number's bytes may have.
func numbers() []uint64 {
	list := []uint64{0, 1, 2, 127, 128, 258, 4129, 65535, 65536, api.MaxNumber, 1<<64 - 2}
	for size := range 8 {
		least := uint64(1) << (8 * size)
		list = append(list, least, least+1, least*256-1, least*0x80)
	}
	return list
}

func texts() []string {
	list := []string{"", "\x00", "\x00\x00\x00\x00", "\xff", "a", "ab", "123456789", "\x08\x00", "äß€", "\xff\xff\xff\xff\xff\xff"}
	for _, size := range []int{255, 256, 257, 4000, api.MaxData - 1, api.MaxData} {
		list = append(list, noise(size, int64(size)))
	}
	return list
}

func noise(size int, seed int64) string {
	b := make([]byte, size)
	rand.New(rand.NewSource(seed)).Read(b)
	return string(b)
}

func frame(t *testing.T, payload string) string {
	t.Helper()
	f, why := pack.Frame(payload)
	if why != api.OK {
		t.Fatalf("Frame of %d bytes: error %d", len(payload), why)
	}
	return f
}

// divide reckons the check as the rest of a division of bits: another way than the chapter's words go.
func divide(s string) uint16 {
	list := []byte(s + "\x00\x00")
	var rest uint32
	for i, b := range list {
		if i < 2 {
			b ^= 0xff
		}
		for bit := 7; bit >= 0; bit-- {
			rest = rest<<1 | uint32(b>>bit)&1
			if rest >= 1<<16 {
				rest ^= 1<<16 | 4129
			}
		}
	}
	return uint16(rest)
}

// words goes as the chapter's words do.
func words(s string) int {
	n := 65535
	for _, b := range []byte(s) {
		n ^= int(b) * 256
		for range 8 {
			n *= 2
			if n >= 65536 {
				n = (n - 65536) ^ 4129
			}
		}
	}
	return n
}

// 1.1, and the chapter's first example.
func TestSumKnown(t *testing.T) {
	known := map[string]uint16{"": 0xffff, "123456789": 0x29b1, "A": 0xb915, "\x00": 0xe1f0, "\xff": 0xff00, "\xff\xff": 0x0000, "\x00\x00": 0x1d0f}
	for s, want := range known {
		if got := pack.Sum(s); got != want {
			t.Errorf("Sum(%q) = %04x, not %04x", s, got, want)
		}
	}
}

// 1.1: whatever the bytes, among them those whose check comes to 0 underway.
func TestSumAny(t *testing.T) {
	list := texts()
	for a := range 256 {
		list = append(list, string([]byte{byte(a)}), string([]byte{0xff, 0xff, byte(a)}))
		for b := range 256 {
			list = append(list, string([]byte{byte(a), byte(b)}))
		}
	}
	for seed := range 200 {
		list = append(list, noise(seed, int64(seed)))
	}
	list = append(list, noise(3*api.MaxData, 1))
	for _, s := range list {
		got := pack.Sum(s)
		if int(got) != words(s) || got != divide(s) {
			t.Fatalf("Sum of %d bytes = %04x, not %04x", len(s), got, words(s))
		}
		head := string([]byte{byte(got >> 8), byte(got)})
		if rest := pack.Sum(s + head); rest != 0 {
			t.Fatalf("Sum of %d bytes and their check = %04x, not 0", len(s), rest)
		}
	}
}

// 1.1: Number.
func TestNumber(t *testing.T) {
	known := map[uint64]string{
		0: "\x00", 1: "\x01\x01", 255: "\x01\xff", 256: "\x02\x01\x00", 258: "\x02\x01\x02", 65535: "\x02\xff\xff", 65536: "\x03\x01\x00\x00",
		1 << 62: "\x08\x40\x00\x00\x00\x00\x00\x00\x00", 0x0102030405060708: "\x08\x01\x02\x03\x04\x05\x06\x07\x08",
		1<<64 - 1: "\x08\xff\xff\xff\xff\xff\xff\xff\xff", 1<<56 - 1: "\x07\xff\xff\xff\xff\xff\xff\xff",
	}
	for n, want := range known {
		if got := pack.Number(n); got != want {
			t.Errorf("Number(%d) = %x, not %x", n, got, want)
		}
	}
	for _, n := range numbers() {
		s := pack.Number(n)
		if int(s[0]) != len(s)-1 || len(s) > 9 || len(s) > 1 && s[1] == 0 {
			t.Errorf("Number(%d) = %x", n, s)
		}
	}
}

// 1.1: TakeNumber, and which error comes first.
func TestTakeNumberKnown(t *testing.T) {
	for s, want := range map[string]struct {
		n    uint64
		rest string
		why  api.Errno
	}{
		"":                             {0, "", api.ErrMore},
		"\x00":                         {0, "", api.OK},
		"\x00\x00":                     {0, "\x00", api.OK},
		"\x00\x09":                     {0, "\x09", api.OK},
		"\x01":                         {0, "", api.ErrMore},
		"\x01\x00":                     {0, "", api.ErrForm},
		"\x01\x01":                     {1, "", api.OK},
		"\x01\x01\x00":                 {1, "\x00", api.OK},
		"\x02\x00":                     {0, "", api.ErrForm},
		"\x02\x00\x01":                 {0, "", api.ErrForm},
		"\x02\x01":                     {0, "", api.ErrMore},
		"\x02\x01\x00xyz":              {256, "xyz", api.OK},
		"\x08":                         {0, "", api.ErrMore},
		"\x08\x00":                     {0, "", api.ErrForm},
		"\x08\x01\x00\x00\x00\x00\x00": {0, "", api.ErrMore},
		"\x08\xff\xff\xff\xff\xff\xff\xff\xff\xff": {1<<64 - 1, "\xff", api.OK},
		"\x09": {0, "", api.ErrForm},
		"\x09\x01\x01\x01\x01\x01\x01\x01\x01\x01": {0, "", api.ErrForm},
		"\xff\x00": {0, "", api.ErrForm},
	} {
		n, rest, why := pack.TakeNumber(s)
		if n != want.n || rest != want.rest || why != want.why {
			t.Errorf("TakeNumber(%x) = %d, %x, error %d; not %d, %x, error %d", s, n, rest, why, want.n, want.rest, want.why)
		}
	}
}

// 1.1: TakeNumber of every first byte, with too few bytes behind it, with a 0, and with many.
func TestTakeNumberFirst(t *testing.T) {
	for first := range 256 {
		head := string([]byte{byte(first)})
		few, nought, many := api.ErrMore, api.ErrForm, api.OK
		if first == 0 {
			few, nought = api.OK, api.OK
		}
		if first > 8 {
			few, many = api.ErrForm, api.ErrForm
		}
		for s, want := range map[string]api.Errno{head: few, head + "\x00": nought, head + "\x00" + noise(300, 1): nought, head + "\x01" + noise(300, 2): many} {
			if n, rest, why := pack.TakeNumber(s); why != want || why != api.OK && (n != 0 || rest != "") {
				t.Errorf("TakeNumber(%.10x) = %d, %.10x, error %d, not %d", s, n, rest, why, want)
			}
		}
	}
}

// 1.1: Text and TakeText, and which error comes first.
func TestText(t *testing.T) {
	for s, want := range map[string]string{"": "\x00", "a": "\x01\x01a", "\x00\x00": "\x01\x02\x00\x00"} {
		if got := pack.Text(s); got != want {
			t.Errorf("Text(%q) = %x, not %x", s, got, want)
		}
	}
	for _, s := range append(texts(), noise(api.MaxData+1, 7), noise(1<<20, 8)) {
		if got := pack.Text(s); got != pack.Number(uint64(len(s)))+s {
			t.Errorf("Text of %d bytes begins %.10x", len(s), got)
		}
	}
}

func TestTakeText(t *testing.T) {
	full := strings.Repeat("z", api.MaxData)
	for s, want := range map[string]struct {
		text, rest string
		why        api.Errno
	}{
		"":                                     {"", "", api.ErrMore},
		"\x00":                                 {"", "", api.OK},
		"\x00ab":                               {"", "ab", api.OK},
		"\x01":                                 {"", "", api.ErrMore},
		"\x01\x00":                             {"", "", api.ErrForm},
		"\x09":                                 {"", "", api.ErrForm},
		"\x01\x02a":                            {"", "", api.ErrMore},
		"\x01\x02abc":                          {"ab", "c", api.OK},
		"\x02\x01":                             {"", "", api.ErrMore},
		"\x03\x01\x00\x00" + full:              {full, "", api.OK},
		"\x03\x01\x00\x00" + full + "y":        {full, "y", api.OK},
		"\x03\x01\x00\x00" + full[1:]:          {"", "", api.ErrMore},
		"\x03\x01\x00\x01":                     {"", "", api.ErrLong},
		"\x03\x01\x00\x01" + full + "y":        {"", "", api.ErrLong},
		"\x04\x80\x00\x00\x00":                 {"", "", api.ErrLong},
		"\x05\x01\x00\x00\x00\x00a":            {"", "", api.ErrLong},
		"\x08\x80\x00\x00\x00\x00\x00\x00\x00": {"", "", api.ErrLong},
		"\x08\xff\xff\xff\xff\xff\xff\xff\xff": {"", "", api.ErrLong},
	} {
		text, rest, why := pack.TakeText(s)
		if text != want.text || rest != want.rest || why != want.why {
			t.Errorf("TakeText(%.10x), %d bytes: %d and %d bytes, error %d", s, len(s), len(text), len(rest), why)
		}
	}
}

// 1.2: Frame.
func TestFrame(t *testing.T) {
	for payload, want := range map[string]string{"": "\x00\x00\x00\x00\x84\xc0", "hi": "\x00\x00\x00\x02" + two(pack.Sum("\x00\x00\x00\x02hi")) + "hi"} {
		if got := frame(t, payload); got != want {
			t.Errorf("Frame(%q) = %x, not %x", payload, got, want)
		}
	}
	for _, payload := range texts() {
		size := len(payload)
		head := string([]byte{0, byte(size >> 16), byte(size >> 8), byte(size)})
		if got := frame(t, payload); got != head+two(uint16(words(head+payload)))+payload {
			t.Errorf("Frame of %d bytes begins %.10x", size, got)
		}
	}
	for _, size := range []int{api.MaxData + 1, api.MaxData + 2, 2 * api.MaxData, 1 << 24} {
		if f, why := pack.Frame(noise(size, 1)); f != "" || why != api.ErrLong {
			t.Errorf("Frame of %d bytes: %d bytes, error %d", size, len(f), why)
		}
	}
}

func two(n uint16) string { return string([]byte{byte(n >> 8), byte(n)}) }

// 1.2: TakeFrame, and which error comes first.
func TestTakeFrame(t *testing.T) {
	full := frame(t, noise(api.MaxData, 3))
	none := frame(t, "")
	hi := frame(t, "hi")
	long := "\x00\x01\x00\x01"
	for s, want := range map[string]struct {
		payload, rest string
		why           api.Errno
	}{
		"":                                    {"", "", api.ErrMore},
		"\xff\xff\xff":                        {"", "", api.ErrMore},
		"\xff\xff\xff\xff":                    {"", "", api.ErrLong},
		"\x80\x00\x00\x00abcdefgh":            {"", "", api.ErrLong},
		"\x01\x00\x00\x00abcdefgh":            {"", "", api.ErrLong},
		long:                                  {"", "", api.ErrLong},
		long + two(0) + full:                  {"", "", api.ErrLong},
		"\x00\x01\x00\x00":                    {"", "", api.ErrMore},
		full[:len(full)-1]:                    {"", "", api.ErrMore},
		full:                                  {full[6:], "", api.OK},
		full + "\x00":                         {full[6:], "\x00", api.OK},
		"\x00\x00\x00\x00":                    {"", "", api.ErrMore},
		"\x00\x00\x00\x00\x00":                {"", "", api.ErrMore},
		"\x00\x00\x00\x00\x00\x00":            {"", "", api.ErrForm},
		none:                                  {"", "", api.OK},
		none + hi:                             {"", hi, api.OK},
		hi + none:                             {"hi", none, api.OK},
		hi[:7] + "x":                          {"", "", api.ErrForm},
		hi[:7]:                                {"", "", api.ErrMore},
		hi[:4] + "\x00\x00h":                  {"", "", api.ErrMore},
		"\x00\x00\x00\x03" + hi[4:]:           {"", "", api.ErrMore},
		"\x00\x00\x00\x01" + hi[4:]:           {"", "", api.ErrForm},
		hi[:4] + hi[5:6] + hi[4:5] + hi[6:]:   {"", "", api.ErrForm},
		hi[:4] + two(pack.Sum("hi")) + hi[6:]: {"", "", api.ErrForm},
	} {
		payload, rest, why := pack.TakeFrame(s)
		if payload != want.payload || rest != want.rest || why != want.why {
			t.Errorf("TakeFrame(%.10x), %d bytes: %d and %d bytes, error %d, not %d", s, len(s), len(payload), len(rest), why, want.why)
		}
	}
}

// 1.3, and DOC.md's P3: what was handed in and answered stays as it was, and nothing is kept: asked again, in another order, all is the same.
func TestNothingKept(t *testing.T) {
	type made struct{ given, number, text, frame string }
	ask := func(s string) made {
		f, _ := pack.Frame(s)
		return made{strings.Clone(s), pack.Number(uint64(len(s))), pack.Text(s), f}
	}
	list := texts()
	copies := make([]string, len(list))
	first := make([]made, len(list))
	for i, s := range list {
		copies[i] = strings.Clone(s)
		first[i] = ask(s)
	}
	for i := len(list) - 1; i >= 0; i-- {
		if list[i] != copies[i] || ask(list[i]) != first[i] {
			t.Errorf("%d bytes: not as it was", len(copies[i]))
		}
		all := first[i].text + first[i].frame
		kept := strings.Clone(all)
		text, rest, _ := pack.TakeText(all)
		payload, _, _ := pack.TakeFrame(rest)
		pack.TakeNumber(all)
		pack.TakeText("\x01\x01a")
		if all != kept || text != copies[i] || payload != copies[i] {
			t.Errorf("%d bytes: taken they are not what they were", len(copies[i]))
		}
	}
}

// 1.4.
func TestThereAndBack(t *testing.T) {
	behind := []string{"", "\x00", "\x09", "x", frame(t, "next"), noise(100, 4)}
	for _, more := range behind {
		for _, n := range numbers() {
			if m, rest, why := pack.TakeNumber(pack.Number(n) + more); m != n || rest != more || why != api.OK {
				t.Errorf("number %d with %.10x behind: %d, %.10x, error %d", n, more, m, rest, why)
			}
		}
		for _, s := range texts() {
			if u, rest, why := pack.TakeText(pack.Text(s) + more); u != s || rest != more || why != api.OK {
				t.Errorf("text of %d bytes with %.10x behind: %d bytes, error %d", len(s), more, len(u), why)
			}
			if u, rest, why := pack.TakeFrame(frame(t, s) + more); u != s || rest != more || why != api.OK {
				t.Errorf("frame of %d bytes with %.10x behind: %d bytes, error %d", len(s), more, len(u), why)
			}
		}
	}
}

// 1.5.
func TestCutShort(t *testing.T) {
	for _, n := range numbers() {
		s := pack.Number(n)
		for size := range len(s) {
			if m, rest, why := pack.TakeNumber(s[:size]); m != 0 || rest != "" || why != api.ErrMore {
				t.Errorf("number %d cut to %x: %d, %x, error %d", n, s[:size], m, rest, why)
			}
		}
	}
	for _, s := range texts() {
		text, made := pack.Text(s), frame(t, s)
		step := 1 + len(s)/500
		for size := 0; size < len(text); size += step {
			if u, rest, why := pack.TakeText(text[:size]); u != "" || rest != "" || why != api.ErrMore {
				t.Fatalf("text of %d bytes, cut to %d: error %d", len(s), size, why)
			}
		}
		for size := 0; size < len(made); size += step {
			if u, rest, why := pack.TakeFrame(made[:size]); u != "" || rest != "" || why != api.ErrMore {
				t.Fatalf("frame of %d bytes, cut to %d: error %d", len(s), size, why)
			}
		}
		for _, size := range []int{0, 3, 4, 5, len(made) - 1} {
			if _, _, why := pack.TakeFrame(made[:size]); why != api.ErrMore {
				t.Errorf("frame of %d bytes, cut to %d: error %d", len(s), size, why)
			}
		}
	}
}

// 1.6. With bytes behind it, too: then a greater size does not end too soon.
func TestTurned(t *testing.T) {
	for _, payload := range []string{"", "\x00", "a", "hi", "123456789", noise(64, 1), noise(255, 2), noise(256, 3)} {
		for _, more := range []string{"", "\x00", noise(1000, 5)} {
			made := frame(t, payload)
			for bit := range 8 * len(made) {
				b := []byte(made + more)
				b[bit/8] ^= 1 << (bit % 8)
				u, rest, why := pack.TakeFrame(string(b))
				if why == api.OK && len(u) == len(payload) {
					t.Errorf("frame of %q, bit %d turned: read", payload, bit)
				}
				if bit >= 32 && why != api.ErrForm {
					t.Errorf("frame of %q, bit %d turned: error %d", payload, bit, why)
				}
				if why != api.OK && (u != "" || rest != "") {
					t.Errorf("frame of %q, bit %d turned: not zero beside an error", payload, bit)
				}
			}
		}
	}
	made := frame(t, noise(api.MaxData, 6))
	for bit := 0; bit < 8*len(made); bit += 4099 {
		b := []byte(made)
		b[bit/8] ^= 1 << (bit % 8)
		if u, _, why := pack.TakeFrame(string(b)); why == api.OK && len(u) == api.MaxData {
			t.Errorf("greatest frame, bit %d turned: read", bit)
		}
	}
}

// DOC.md's P1 and P2: of any bytes; and what is taken is what is made: there are no two ways to write one thing.
func TestAnyBytes(t *testing.T) {
	look := func(s string) {
		n, rest, why := pack.TakeNumber(s)
		if why == api.OK && pack.Number(n)+rest != s || why != api.OK && (n != 0 || rest != "") {
			t.Errorf("TakeNumber(%.20x) = %d, error %d", s, n, why)
		}
		u, rest, why := pack.TakeText(s)
		if why == api.OK && pack.Text(u)+rest != s || why != api.OK && (u != "" || rest != "") {
			t.Errorf("TakeText(%.20x): %d bytes, error %d", s, len(u), why)
		}
		u, rest, why = pack.TakeFrame(s)
		if why != api.OK && (u != "" || rest != "") {
			t.Errorf("TakeFrame(%.20x): not zero beside an error", s)
		}
		if why == api.OK {
			if made, _ := pack.Frame(u); made+rest != s {
				t.Errorf("TakeFrame(%.20x): %d bytes, of another frame", s, len(u))
			}
		}
	}
	for a := range 256 {
		for b := range 256 {
			look(string([]byte{byte(a), byte(b)}))
		}
	}
	draw := rand.New(rand.NewSource(1))
	for range 20000 {
		b := []byte(noise(draw.Intn(12), draw.Int63()))
		for i := range b {
			if draw.Intn(2) == 0 {
				b[i] %= 10
			}
		}
		look(string(b))
	}
}
