package cfm_test

import (
	"encoding/binary"
	"math/rand/v2"
	"slices"
	"strings"
	"testing"

	"viaduct/api"
	"viaduct/cfm"
	"viaduct/tlv"
)

const mostOfThing = 1480 // bytes of a thing's value that is put

// x are so many bytes.
func x(n int) string { return strings.Repeat("x", n) }

// of is a thing.
func of(kind uint8, value string) tlv.Tlv { return tlv.Tlv{Type: kind, Value: value} }

// row are things in a row.
func row(l ...tlv.Tlv) []tlv.Tlv { return l }

// some are messages, and their bytes.
var some = []struct {
	name  string
	p     cfm.Pdu
	bytes string
}{
	{"the chapter's", cfm.Pdu{Level: 5, Op: cfm.Lbm, Fixed: "abcd"}, "\xa0\x03\x00\x04\x61\x62\x63\x64\x00"},
	{"of nothing", cfm.Pdu{}, "\x00\x00\x00\x00\x00"},
	{"a thing", cfm.Pdu{Level: 7, Op: cfm.Ltm, Flags: 0x80, Fixed: "xy", Tlvs: row(of(8, "q"))}, "\xe0\x05\x80\x02xy\x08\x00\x01q\x00"},
	{"the greatest numbers", cfm.Pdu{Level: 7, Op: 255, Flags: 255, Fixed: "\xff", Tlvs: row(of(255, "\xff"))}, "\xe0\xff\xff\x01\xff\xff\x00\x01\xff\x00"},
	{"no fixed part, things", cfm.Pdu{Level: 1, Op: cfm.Ccm, Flags: 4, Tlvs: row(of(2, ""), of(1, "\x00"), of(2, "ab"))}, "\x20\x01\x04\x00\x02\x00\x00\x01\x00\x01\x00\x02\x00\x02ab\x00"},
	{"noughts in the fixed part", cfm.Pdu{Level: 2, Op: cfm.Lbr, Fixed: "\x00\x00\x00"}, "\x40\x02\x00\x03\x00\x00\x00\x00"},
	{"a message in the fixed part", cfm.Pdu{Level: 3, Op: cfm.Ltr, Fixed: "\xa0\x03\x00\x00\x00"}, "\x60\x04\x00\x05\xa0\x03\x00\x00\x00\x00"},
	{"a message in a thing", cfm.Pdu{Level: 4, Op: 9, Tlvs: row(of(3, "\xa0\x03\x00\x00\x00"))}, "\x80\x09\x00\x00\x03\x00\x05\xa0\x03\x00\x00\x00\x00"},
	{"a fixed part of 127", cfm.Pdu{Level: 6, Op: 1, Flags: 1, Fixed: x(127)}, "\xc0\x01\x01\x7f" + x(127) + "\x00"},
	{"the longest fixed part", cfm.Pdu{Level: 6, Op: 1, Flags: 1, Fixed: x(255), Tlvs: row(of(1, "a"))}, "\xc0\x01\x01\xff" + x(255) + "\x01\x00\x01a\x00"},
	{"the longest thing", cfm.Pdu{Level: 1, Op: 2, Flags: 3, Fixed: "z", Tlvs: row(of(4, x(1480)))}, "\x20\x02\x03\x01z\x04\x05\xc8" + x(1480) + "\x00"},
}

// long are messages with things that are taken alone, and their bytes.
var long = []struct {
	p     cfm.Pdu
	bytes string
}{
	{cfm.Pdu{Level: 2, Op: 1, Fixed: "z", Tlvs: row(of(4, x(1481)))}, "\x40\x01\x00\x01z\x04\x05\xc9" + x(1481) + "\x00"},
	{cfm.Pdu{Level: 2, Op: 1, Tlvs: row(of(4, "a"), of(4, x(65535)))}, "\x40\x01\x00\x00\x04\x00\x01a\x04\xff\xff" + x(65535) + "\x00"},
}

// behind are bytes that may stand behind a message.
var behind = []string{"", "\x00", "\x07", "\x01\x00\x00", "\xa0\x03\x00\x00\x00", "\xff\xff\xff\xff", x(3000)}

// same holds that two messages are alike.
func same(a, b cfm.Pdu) bool {
	return a.Level == b.Level && a.Op == b.Op && a.Flags == b.Flags && a.Fixed == b.Fixed && slices.Equal(a.Tlvs, b.Tlvs)
}

func checkPut(t *testing.T, p cfm.Pdu, want string, err api.Errno) {
	t.Helper()
	if got, e := cfm.Put(p); got != want || e != err {
		t.Errorf("Put(%.60q) = %.40x (%d), %d; want %.40x (%d), %d", p, got, len(got), e, want, len(want), err)
	}
}

func checkTake(t *testing.T, s string, want cfm.Pdu, err api.Errno) {
	t.Helper()
	if p, e := cfm.Take(s); !same(p, want) || e != err {
		t.Errorf("Take(%.40x) = %.60q, %d; want %.60q, %d", s, p, e, want, err)
	}
}

func checkHead(t *testing.T, s string, level, op uint8, has bool) {
	t.Helper()
	if l, o, is := cfm.Head(s); l != level || o != op || is != has {
		t.Errorf("Head(%.40x) = %d, %d, %t; want %d, %d, %t", s, l, o, is, level, op, has)
	}
}

func checkOf(t *testing.T, f api.Frame, level, op uint8, has bool) {
	t.Helper()
	if l, o, is := cfm.Of(f); l != level || o != op || is != has {
		t.Errorf("Of(%.80v) = %d, %d, %t; want %d, %d, %t", f, l, o, is, level, op, has)
	}
}

// wrong is the error that the chapter asks for of a message that is put.
func wrong(p cfm.Pdu) api.Errno {
	if p.Level > 7 {
		return api.ErrArg
	}
	if len(p.Fixed) > 255 {
		return api.ErrLong
	}
	for _, t := range p.Tlvs {
		if t.Type == 0 {
			return api.ErrArg
		}
		if len(t.Value) > mostOfThing {
			return api.ErrLong
		}
	}
	return api.OK
}

// bytesOf are the bytes of a message that is taken.
func bytesOf(p cfm.Pdu) string {
	b := []byte{p.Level << 5, p.Op, p.Flags, byte(len(p.Fixed))}
	b = append(b, p.Fixed...)
	for _, t := range p.Tlvs {
		b = append(b, t.Type)
		b = binary.BigEndian.AppendUint16(b, uint16(len(t.Value)))
		b = append(b, t.Value...)
	}
	return string(b) + "\x00"
}

func TestConstants(t *testing.T) {
	if cfm.Type != 0x8902 {
		t.Errorf("%x", cfm.Type)
	}
	if l := []uint8{cfm.Ccm, cfm.Lbr, cfm.Lbm, cfm.Ltr, cfm.Ltm}; !slices.Equal(l, []uint8{1, 2, 3, 4, 5}) {
		t.Error(l)
	}
}

// P12.1, P12.2, P12.4
func TestPutAndTake(t *testing.T) {
	for _, c := range some {
		t.Run(c.name, func(t *testing.T) {
			if bytesOf(c.p) != c.bytes {
				t.Fatalf("%x", bytesOf(c.p))
			}
			checkPut(t, c.p, c.bytes, api.OK)
			for _, rest := range behind {
				checkTake(t, c.bytes+rest, c.p, api.OK)
				checkHead(t, c.bytes+rest, c.p.Level, c.p.Op, true)
			}
		})
	}
}

// P12.1, P12.2: any operation may be, and any flags; of levels those up to 7.
func TestNumbers(t *testing.T) {
	for level := range 256 {
		for n := range 256 {
			p := cfm.Pdu{Level: uint8(level), Op: uint8(n), Flags: uint8(n ^ 0x35), Fixed: "a"}
			if level > 7 {
				checkPut(t, p, "", api.ErrArg)
				continue
			}
			s := string([]byte{byte(level * 32), byte(n), byte(n ^ 0x35), 1, 'a', 0})
			checkPut(t, p, s, api.OK)
			checkTake(t, s, p, api.OK)
			checkHead(t, s, uint8(level), uint8(n), true)
		}
	}
}

// P12.1, P12.2: a fixed part has at most 255 bytes; what is longer is not as long as the byte left of it.
func TestFixed(t *testing.T) {
	for n := range 256 {
		p := cfm.Pdu{Level: 1, Op: 2, Flags: 3, Fixed: x(n), Tlvs: row(of(1, "a"))}
		s := "\x20\x02\x03" + string([]byte{byte(n)}) + x(n) + "\x01\x00\x01a\x00"
		checkPut(t, p, s, api.OK)
		checkTake(t, s, p, api.OK)
	}
	for _, n := range []int{256, 257, 260, 511, 512, 65535, 65536, 65540, 1 << 20} {
		checkPut(t, cfm.Pdu{Fixed: x(n)}, "", api.ErrLong)
		checkPut(t, cfm.Pdu{Level: 7, Op: 5, Fixed: x(n), Tlvs: row(of(1, "a"))}, "", api.ErrLong)
	}
}

// P12.1: the error is that of the level, then of the fixed part, then of the things.
func TestPutWrong(t *testing.T) {
	noType, tooLong, good := row(of(0, "")), row(of(1, x(1481))), row(of(1, "a"))
	for _, c := range []struct {
		p   cfm.Pdu
		err api.Errno
	}{
		{cfm.Pdu{Level: 8}, api.ErrArg},
		{cfm.Pdu{Level: 255, Op: cfm.Ccm, Fixed: "abcd", Tlvs: good}, api.ErrArg},
		{cfm.Pdu{Level: 32}, api.ErrArg},
		{cfm.Pdu{Fixed: x(256)}, api.ErrLong},
		{cfm.Pdu{Tlvs: noType}, api.ErrArg},
		{cfm.Pdu{Tlvs: tooLong}, api.ErrLong},
		{cfm.Pdu{Tlvs: row(of(1, "a"), of(0, "b"))}, api.ErrArg},
		{cfm.Pdu{Tlvs: row(of(1, "a"), of(2, x(1481)))}, api.ErrLong},
		{cfm.Pdu{Tlvs: row(of(2, x(1481)), of(0, ""))}, api.ErrLong},
		{cfm.Pdu{Tlvs: row(of(0, ""), of(2, x(1481)))}, api.ErrArg},
		{cfm.Pdu{Level: 8, Fixed: x(256)}, api.ErrArg},
		{cfm.Pdu{Level: 8, Tlvs: tooLong}, api.ErrArg},
		{cfm.Pdu{Level: 8, Fixed: x(256), Tlvs: tooLong}, api.ErrArg},
		{cfm.Pdu{Level: 7, Fixed: x(256), Tlvs: noType}, api.ErrLong},
		{cfm.Pdu{Level: 7, Fixed: x(255), Tlvs: noType}, api.ErrArg},
		{cfm.Pdu{Level: 7, Fixed: x(255), Tlvs: tooLong}, api.ErrLong},
	} {
		checkPut(t, c.p, "", c.err)
		if wrong(c.p) != c.err {
			t.Error(c.err)
		}
	}
}

// P12.1: of no things the list may be nil or empty; things may be more than a frame holds.
func TestThings(t *testing.T) {
	checkPut(t, cfm.Pdu{Op: 1, Tlvs: []tlv.Tlv{}}, "\x00\x01\x00\x00\x00", api.OK)
	checkPut(t, cfm.Pdu{Op: 1}, "\x00\x01\x00\x00\x00", api.OK)
	l := make([]tlv.Tlv, 50000)
	for i := range l {
		l[i] = of(uint8(1+i%255), x(i%4))
	}
	p := cfm.Pdu{Level: 3, Op: cfm.Lbm, Fixed: "abcd", Tlvs: l}
	checkPut(t, p, bytesOf(p), api.OK)
	checkTake(t, bytesOf(p), p, api.OK)
}

// P12.2: a thing's value may be longer than it may be put.
func TestTakeLong(t *testing.T) {
	for _, c := range long {
		for _, rest := range behind {
			checkTake(t, c.bytes+rest, c.p, api.OK)
		}
		checkPut(t, c.p, "", api.ErrLong)
	}
}

// P12.2, P12.4: bytes that end ahead of the message's end, wherever, are short; their head is told from 4 bytes on.
func TestTakeShort(t *testing.T) {
	for _, c := range some {
		for n := range len(c.bytes) {
			checkTake(t, c.bytes[:n], cfm.Pdu{}, api.ErrShort)
			if n < 4 {
				checkHead(t, c.bytes[:n], 0, 0, false)
			} else {
				checkHead(t, c.bytes[:n], c.p.Level, c.p.Op, true)
			}
		}
	}
	for _, s := range []string{
		"",
		"\xe0\x05\x80",                       // no length
		"\xe0\x05\x80\x00",                   // no end
		"\xe0\x05\x80\x09\x00",               // a fixed part that goes beyond
		"\xe0\x05\x80\x01\x00",               // the nought is the fixed part's
		"\xe0\x05\x80\xff" + x(255),          // the end is missing
		"\xe0\x05\x80\x01a\x01\x00",          // half a thing's length
		"\xe0\x05\x80\x01a\x01\x00\x02b\x00", // the nought is the thing's
		"\xe0\x05\x80\x01a\x01\x00\x01b",     // the end is missing
	} {
		checkTake(t, s, cfm.Pdu{}, api.ErrShort)
	}
}

// P12.2, P12.4: the lower five bits of the first byte are noughts; if not, the head is told all the same.
func TestTakeForm(t *testing.T) {
	for first := range 256 {
		for _, rest := range []string{
			"\x05\x80\x00\x00",
			"\x05\x80\x02ab\x08\x00\x01q\x00",
			"\x05\x80\x02ab\x08\x00\x01q\x00zz",
		} {
			s := string([]byte{byte(first)}) + rest
			if first&31 != 0 {
				checkTake(t, s, cfm.Pdu{}, api.ErrForm)
			} else if p, e := cfm.Take(s); e != api.OK || int(p.Level)*32 != first {
				t.Errorf("%x: %.60q, %d", s, p, e)
			}
			checkHead(t, s, uint8(first>>5), 5, true)
		}
	}
}

// P12.2: that there are not 4 bytes goes ahead of the form, and the form ahead of all that ends too soon behind them.
func TestTakeShortOrForm(t *testing.T) {
	for first := range 256 {
		for _, rest := range []string{"", "\x05", "\x05\x80"} {
			checkTake(t, string([]byte{byte(first)})+rest, cfm.Pdu{}, api.ErrShort)
		}
		err := api.ErrForm
		if first&31 == 0 {
			err = api.ErrShort
		}
		for _, rest := range []string{
			"\x05\x80\x00",
			"\x05\x80\x09",
			"\x05\x80\x09\x00",
			"\x05\x80\x00\x01\x00",
			"\x05\x80\x00\x01\x00\x00",
			"\x05\x80\xff" + x(254),
		} {
			checkTake(t, string([]byte{byte(first)})+rest, cfm.Pdu{}, err)
		}
	}
}

// P12.3, P12.4: of 4 bytes and more there is a head, whatever they are.
func TestHead(t *testing.T) {
	checkHead(t, "\xbf\x09\x07\x06", 5, 9, true)
	for _, s := range []string{"", "\xbf", "\xbf\x09", "\xbf\x09\x07"} {
		checkHead(t, s, 0, 0, false)
	}
	for first := range 256 {
		for op := range 256 {
			s := string([]byte{byte(first), byte(op), byte(op), byte(first)})
			for _, rest := range []string{"", "\x00", "\xff\xff\xff"} {
				checkHead(t, s+rest, uint8(first/32), uint8(op), true)
			}
		}
	}
}

// P12.3: a frame's type tells whether it has a head; nothing else of it plays a part but its data.
func TestOf(t *testing.T) {
	checkOf(t, api.Frame{Type: cfm.Type, Data: "\x7f\x01\x00\x00"}, 3, cfm.Ccm, true)
	a, b := api.Mac{2, 0, 0, 0, 0, 1}, api.Mac{1, 0x80, 0xc2, 0, 0, 0x37}
	for _, f := range []api.Frame{
		{},
		{Dst: b, Src: a},
		{Tagged: true, Pri: 7, Vid: 4094},
		{Dst: b, Src: a, Tagged: true, Pri: 99, Vid: 65535},
		{Pri: 1, Vid: 2},
	} {
		f.Type = cfm.Type
		for _, s := range []string{"", "\xbf", "\xbf\x09", "\xbf\x09\x07"} {
			f.Data = s
			checkOf(t, f, 0, 0, false)
		}
		f.Data = "\xbf\x09\x07\x06"
		checkOf(t, f, 5, 9, true)
		f.Data += x(4000)
		checkOf(t, f, 5, 9, true)
		for n := range 65536 {
			if f.Type = uint16(n); n != 0x8902 {
				checkOf(t, f, 0, 0, false)
			}
		}
	}
}

// R3: what is handed in is not changed, nor the room behind its end.
func TestHandedIn(t *testing.T) {
	room := row(of(1, "a"), of(2, "b"), of(0, "c"), of(4, x(1481)))
	before := slices.Clone(room)
	checkPut(t, cfm.Pdu{Tlvs: room[:2]}, "\x00\x00\x00\x00\x01\x00\x01a\x02\x00\x01b\x00", api.OK)
	checkPut(t, cfm.Pdu{Tlvs: room[:3]}, "", api.ErrArg)
	checkPut(t, cfm.Pdu{Level: 8, Tlvs: room[:2]}, "", api.ErrArg)
	if !slices.Equal(room, before) {
		t.Errorf("%.40q", room)
	}
}

// R3: what is handed out is new memory, spare room too.
func TestHandedOut(t *testing.T) {
	want := cfm.Pdu{Level: 1, Op: 2, Fixed: "f", Tlvs: row(of(1, "a"), of(2, "b"), of(3, "c"))}
	s := bytesOf(want)
	first, _ := cfm.Take(s)
	second, _ := cfm.Take(s)
	things := first.Tlvs[:cap(first.Tlvs)]
	for i := range things {
		things[i] = of(9, "z")
	}
	if !same(second, want) {
		t.Errorf("%q", second)
	}
	checkTake(t, s, want, api.OK)
}

// someBytes are some bytes, fewer than n.
func someBytes(rnd *rand.Rand, n int) string {
	b := make([]byte, rnd.IntN(n))
	for i := range b {
		b[i] = byte(rnd.IntN(4))
	}
	return string(b)
}

// somePdu is a message; mostly it is put.
func somePdu(rnd *rand.Rand) cfm.Pdu {
	p := cfm.Pdu{Level: uint8(rnd.IntN(8)), Op: uint8(rnd.IntN(256)), Flags: uint8(rnd.IntN(256)), Fixed: someBytes(rnd, 12)}
	switch rnd.IntN(40) {
	case 0:
		p.Level += 8
	case 1:
		p.Fixed = x(254 + rnd.IntN(4))
	case 2:
		p.Tlvs = row(of(uint8(rnd.IntN(3)), x(mostOfThing-1+rnd.IntN(3))))
	}
	for range rnd.IntN(4) {
		p.Tlvs = append(p.Tlvs, of(uint8(1+rnd.IntN(255)), someBytes(rnd, 6)))
	}
	return p
}

// P12.4: what is put is taken, whatever is behind it; its head is that of its bytes.
func TestPutThenTake(t *testing.T) {
	rnd := rand.New(rand.NewPCG(12, 4))
	put := 0
	for range 30000 {
		p, rest := somePdu(rnd), someBytes(rnd, 9)
		if e := wrong(p); e != api.OK {
			checkPut(t, p, "", e)
			continue
		}
		put++
		s, e := cfm.Put(p)
		if e != api.OK {
			t.Fatalf("%.60q: %d", p, e)
		}
		checkTake(t, s+rest, p, api.OK)
		checkHead(t, s+rest, p.Level, p.Op, true)
		checkOf(t, api.Frame{Type: cfm.Type, Data: s + rest}, p.Level, p.Op, true)
	}
	if put < 20000 || put == 30000 {
		t.Errorf("%d were put", put)
	}
}

// shape is the error that the chapter asks for of any bytes that are taken.
func shape(s string) api.Errno {
	if len(s) < 4 {
		return api.ErrShort
	}
	if s[0]&31 != 0 {
		return api.ErrForm
	}
	i := 4 + int(s[3])
	for i < len(s) && s[i] != 0 {
		if i+3 > len(s) {
			return api.ErrShort
		}
		i += 3 + int(binary.BigEndian.Uint16([]byte(s[i+1:i+3])))
	}
	if i >= len(s) {
		return api.ErrShort
	}
	return api.OK
}

// checkBytes holds of any bytes that they are taken as the message whose bytes they begin with, or are wrong as the chapter says.
func checkBytes(t *testing.T, s string) bool {
	t.Helper()
	if len(s) < 4 {
		checkHead(t, s, 0, 0, false)
	} else {
		checkHead(t, s, s[0]>>5, s[1], true)
	}
	if e := shape(s); e != api.OK {
		checkTake(t, s, cfm.Pdu{}, e)
		return false
	}
	p, e := cfm.Take(s)
	if e != api.OK || p.Level > 7 || len(p.Fixed) > 255 || !strings.HasPrefix(s, bytesOf(p)) {
		t.Errorf("Take(%.40x) = %.60q, %d", s, p, e)
		return false
	}
	if w := wrong(p); w != api.OK {
		checkPut(t, p, "", w)
	} else {
		checkPut(t, p, bytesOf(p), api.OK)
	}
	return true
}

// P12.2, P12.4: bytes that are taken are those of the message, which is put as them, if no value is too long.
func TestTakeThenPut(t *testing.T) {
	for _, c := range some {
		checkBytes(t, c.bytes)
	}
	for _, c := range long {
		checkBytes(t, c.bytes+"x")
	}
	rnd := rand.New(rand.NewPCG(4, 12))
	count := 0
	for range 30000 {
		s := []byte(bytesOf(somePdu(rnd)) + someBytes(rnd, 9))
		for range rnd.IntN(3) {
			s[rnd.IntN(len(s))] ^= 1 << rnd.IntN(8)
		}
		if checkBytes(t, string(s[rnd.IntN(2):len(s)-rnd.IntN(3)])) {
			count++
		}
	}
	if count < 4000 || count > 26000 {
		t.Errorf("%d were taken", count)
	}
}

// FuzzTake holds that all bytes are answered.
func FuzzTake(f *testing.F) {
	for _, c := range some {
		f.Add(c.bytes)
		f.Add(c.bytes[1:] + "\x07")
	}
	f.Fuzz(func(t *testing.T, s string) { checkBytes(t, s) })
}

// FuzzPut holds that all messages are answered, as their bytes or by the error that they ask for.
func FuzzPut(f *testing.F) {
	f.Add(uint8(5), uint8(3), uint8(0), "abcd", uint8(3), "ab")
	f.Add(uint8(8), uint8(1), uint8(4), x(256), uint8(0), x(1481))
	f.Add(uint8(7), uint8(5), uint8(128), x(255), uint8(255), x(1480))
	f.Fuzz(func(t *testing.T, level, op, flags uint8, fixed string, kind uint8, value string) {
		p := cfm.Pdu{Level: level, Op: op, Flags: flags, Fixed: fixed, Tlvs: row(of(kind, value))}
		if e := wrong(p); e != api.OK {
			checkPut(t, p, "", e)
			return
		}
		checkPut(t, p, bytesOf(p), api.OK)
		checkTake(t, bytesOf(p)+value, p, api.OK)
		checkHead(t, bytesOf(p), level, op, true)
	})
}
